package msg_test

import (
	"bytes"
	"math/rand"
	"strings"
	"testing"

	"redraft/api"
	"redraft/msg"
)

// wrong: bytes that may not stand where a field is asked for: the fault's error, and its place behind the field's first byte. If they are last, nothing may come behind them, and the place is the end of all bytes.
type wrong struct {
	b    []byte
	off  int
	e    api.Errno
	last bool
}

// noNumbers: what is wrong of every number, whatever its bounds.
func noNumbers() []wrong {
	var out []wrong
	for _, b := range [][]byte{{0x80, 0}, {0x81, 0}, {0xff, 0}, {0x80, 0x80, 0}, {0x83, 0x80, 0}, {0x80, 0x80, 0x80, 0}, {0xff, 0xff, 0xff, 0}, {0x80, 0x80, 0x80, 0x80}, {0x81, 0x80, 0x80, 0x80, 0}, {0xff, 0xff, 0xff, 0xff}, {0xff, 0xff, 0xff, 0xff, 0x7f}, {0x80, 0x80, 0x80, 0x80, 0x80, 0x80, 1}} {
		out = append(out, wrong{b, 0, api.ErrNumber, false})
	}
	for _, b := range [][]byte{{}, {0x80}, {0x81}, {0xff}, {0x80, 0x80}, {0xff, 0xff}, {0x80, 0x80, 0x80}, {0xff, 0xff, 0xff}} {
		out = append(out, wrong{b, len(b), api.ErrCut, true})
	}
	return out
}

// beside: numbers that are wrong with e, and what is wrong of every number.
func beside(e api.Errno, numbers ...int) []wrong {
	out := noNumbers()
	for _, n := range numbers {
		out = append(out, wrong{num(n), 0, e, false})
	}
	return out
}

// spot: a field: bytes that may stand there, and those that may not.
type spot struct {
	right []byte
	wrong []wrong
}

// holdsSpots: with a fault in one field, and right ones ahead of it, that fault is told, whatever comes behind it.
func holdsSpots(t *testing.T, what string, spots []spot, ask func(b []byte) (int, api.Errno)) {
	t.Helper()
	var ahead []byte
	for i, s := range spots {
		var behind []byte
		for _, later := range spots[i+1:] {
			behind = append(behind, later.right...)
		}
		for _, w := range s.wrong {
			rests := [][]byte{nil}
			if !w.last {
				rests = append(rests, behind, []byte{0}, []byte{0x80}, bytes.Repeat([]byte{0xff}, 9), make([]byte, 1200), join(behind, []byte{1}))
			}
			for _, rest := range rests {
				b := join(ahead, w.b, rest)
				if at, e := ask(b); at != len(ahead)+w.off || e != w.e {
					t.Errorf("%s: of %s, field %d = %s: %d, %d, want %d, %d", what, short(b), i, short(w.b), at, e, len(ahead)+w.off, w.e)
				}
			}
		}
		ahead = append(ahead, s.right...)
	}
	if at, e := ask(ahead); at != 0 || e != api.OK {
		t.Errorf("%s: of %s: %d, %d, want OK", what, short(ahead), at, e)
	}
	for x := range 256 {
		if at, e := ask(append(bytes.Clone(ahead), byte(x))); at != len(ahead) || e != api.ErrRest {
			t.Errorf("%s: of %s %x: %d, %d, want %d, ErrRest", what, short(ahead), x, at, e, len(ahead))
		}
	}
}

func askOp(b []byte) (int, api.Errno) {
	_, at, e := msg.DecodeOp(b)
	return at, e
}

func askMsg(b []byte) (int, api.Errno) {
	_, at, e := msg.Decode(b)
	return at, e
}

// headSpots: the fields of a command ahead of those of its kind.
func headSpots(kind api.Kind, id api.ID) []spot {
	return []spot{
		{num(int(kind)), beside(api.ErrKind, 0, 3, 5, 6, 127, 128, 129, 130, 132, 256+1, 65536+2, maxNumber)},
		{num(id[0]), beside(api.ErrID, 0, 9, 10, 127, 128, 129, 257, maxNumber)},
		{num(id[1]), beside(api.ErrID, 0, 1025, 1026, 16384, 1<<16+1, maxNumber)},
	}
}

// textSpot: a length and a text as one field, of an insert at at: a text's faults hang on both.
func textSpot(at int, text string) spot {
	out := beside(api.ErrLong, 1025, 1026, 16384, 1<<16+1, maxNumber)
	out = append(out, wrong{num(0), 0, api.ErrEmpty, false})
	bad := func(n int, s string, off int, e api.Errno) { // off: behind the text's first byte
		b := join(num(n), []byte(s))
		w := wrong{b, len(num(n)) + off, e, e == api.ErrCut}
		if w.last {
			w.off = len(b)
		}
		out = append(out, w)
	}
	for _, s := range []string{"", "a", "a\xff", "\x00b", "\xc3", strings.Repeat("a", 300)} {
		bad(len(s)+1, s, 0, api.ErrCut)
		bad(1024, s, 0, api.ErrCut)
	}
	bad(1024, strings.Repeat("a", 1023), 0, api.ErrCut)
	bad(1, "\xff", 0, api.ErrUtf8)
	bad(1, "\x00", 0, api.ErrRune)
	bad(3, "ab\xc3", 2, api.ErrUtf8)
	bad(1, "\xc3\xa9", 0, api.ErrUtf8)
	bad(4, "\u00e9\u00e9\u00e9"[:3]+"a", 2, api.ErrUtf8)
	bad(5, "\u20ac\x7f\xff", 3, api.ErrRune)
	bad(5, "\u20ac\xff\x7f", 3, api.ErrUtf8)
	bad(7, "\U0001f600\ufeff", 4, api.ErrRune)
	long := strings.Repeat("a", 1023)
	bad(1024, long+"\xff", 1023, api.ErrUtf8)
	bad(1024, long+"\r", 1023, api.ErrRune)
	bad(1024, long+"a", 0, api.ErrLong)
	bad(257, long[:257], 0, api.ErrLong)
	bad(258, long[:256]+"\u00e9", 0, api.ErrLong)
	bad(1018, strings.Repeat("\u20ac", 254)+strings.Repeat("\u00e9\u00e9", 64), 0, api.ErrLong)
	for _, r := range []string{"b", "\u00e9", "\u20ac", "\U0001f600"} {
		n := end - at + 1
		for ; n <= 256; n++ {
			s := strings.Repeat(r, n)
			bad(len(s), s, 0, api.ErrGrow)
		}
	}
	return spot{join(num(len(text)), []byte(text)), out}
}

func TestM2Ins(t *testing.T) {
	for _, o := range []api.Op{ins(1, 1, 0, "x"), ins(3, 17, 12, "a\u00e9"), ins(8, 1024, end-1, "\U0001f600"), ins(7, 128, end-200, strings.Repeat("\u20ac", 200)), ins(7, 128, end-256, strings.Repeat("\U0001f600", 256))} {
		spots := append(headSpots(o.Kind, o.ID), spot{num(o.At), beside(api.ErrPlace, end+1, end+2, 1<<22, maxNumber)}, textSpot(o.At, o.Text))
		holdsSpots(t, "M2", spots, askOp)
	}
	// At the last place no text has room, and what else is wrong with it comes first.
	spots := append(headSpots(api.Ins, api.ID{1, 1}), spot{num(end), nil}, textSpot(end, "x"))
	for _, w := range spots[4].wrong {
		b := join(num(1, 1, 1, end), w.b)
		if at, e := askOp(b); at != 6+w.off || e != w.e {
			t.Errorf("M2: DecodeOp(%s) = %d, %d, want %d, %d", short(b), at, e, 6+w.off, w.e)
		}
	}
}

// rangeSpots: a range's gap and length, behind a range that ends at hi (0: it is the first).
func rangeSpots(hi int, x api.Range) []spot {
	gap := noNumbers()
	if hi > 0 {
		gap = beside(api.ErrOrder, 0)
	}
	return []spot{{num(x.Lo - hi), gap}, {num(x.Hi - x.Lo), beside(api.ErrRange, 0, end-x.Lo+1, end-x.Lo+2, end+1, 1<<22, maxNumber)}}
}

func TestM2Hide(t *testing.T) {
	for _, o := range []api.Op{hide(1, 1, 0, 1), hide(1, 300, 2, 5, 9, 10), hide(8, 1024, 0, end), hide(8, 1024, end-1, end), hide(2, 127, 0, 200, 400, 401, end-2, end), {Head: head(1, 1, api.Hide), Ranges: teeth(0, 130, 1, 1)}} {
		spots := append(headSpots(o.Kind, o.ID), spot{num(len(o.Ranges)), append(beside(api.ErrMany, 32769, 32770, 1<<20, maxNumber), wrong{num(0), 0, api.ErrNone, false})})
		hi := 0
		for _, x := range o.Ranges {
			spots = append(spots, rangeSpots(hi, x)...)
			hi = x.Hi
		}
		holdsSpots(t, "M2", spots, askOp)
	}
}

// A gap has no bound of its own: a range beyond the last place is told at its length.
func TestM2Gap(t *testing.T) {
	for _, gap := range []int{end - 1, end, end + 1, 1 << 22, maxNumber - 1, maxNumber} {
		for _, n := range []int{0, 1, 2, end, end + 1, maxNumber} {
			first := join(num(2, 1, 1, 1, gap))
			second := join(num(2, 1, 1, 2, 5, 6, gap-11))
			for i, b := range [][]byte{first, second} {
				b, at, e := append(bytes.Clone(b), num(n)...), len(b), api.ErrRange
				if gap == end-1 && n == 1 {
					at, e = 0, api.OK
				}
				if got, f := askOp(b); got != at || f != e {
					t.Errorf("M2: range %d at %d, length %d: %d, %d, want %d, %d", i, gap, n, got, f, at, e)
				}
				holdsDecodeOp(t, b)
			}
		}
	}
}

func TestM2ManyRanges(t *testing.T) {
	for _, o := range greatOps() {
		b := plainOp(o)
		holdsDecodeOp(t, b)
		holdsDecodeOp(t, append(b, 0))
		holdsDecodeOp(t, b[:len(b)-1])
		holdsDecodeOp(t, append(bytes.Clone(b[:len(b)-1]), 0))
		holdsDecode(t, plainMsg(cast(8, 8192, o)))
	}
	// One more than there may be is told at the count, though all of them are there.
	b := join(num(2, 1, 1, 32769), bytes.Repeat([]byte{1, 1}, 32769))
	if at, e := askOp(b); at != 3 || e != api.ErrMany {
		t.Errorf("M2: 32769 ranges: %d, %d, want 3, ErrMany", at, e)
	}
	// The last of them is wrong.
	b = join(num(2, 1, 1, 32768), bytes.Repeat([]byte{1, 1}, 32767))
	for _, c := range []struct {
		last []byte
		at   int
		e    api.Errno
	}{
		{num(1, 1), 0, api.OK}, {num(0, 1), len(b), api.ErrOrder}, {num(1, 0), len(b) + 1, api.ErrRange}, {num(1, end-65534-1), 0, api.OK}, {num(1, end-65534), len(b) + 1, api.ErrRange}, {num(end-65534, 1), len(b) + 3, api.ErrRange}, {num(end-65534-1, 1), 0, api.OK}, {num(1), len(b) + 1, api.ErrCut},
	} {
		if at, e := askOp(join(b, c.last)); at != c.at || e != c.e {
			t.Errorf("M2: the last of 32768 ranges %x: %d, %d, want %d, %d", c.last, at, e, c.at, c.e)
		}
	}
}

func TestM2Status(t *testing.T) {
	for _, o := range []api.Op{status(2, 8, 3, 17, false), status(1, 1, 1, 2, true), status(8, 1024, 8, 1023, true), status(8, 1024, 7, 1024, false), status(1, 128, 1, 129, true)} {
		numbers := []int{0, 1025, 1026, 16384, maxNumber}
		if o.Target[0] == o.ID[0] {
			numbers = append(numbers, o.ID[1])
		}
		on := 0
		if o.On {
			on = 1
		}
		spots := append(headSpots(o.Kind, o.ID),
			spot{num(o.Target[0]), beside(api.ErrTarget, 0, 9, 127, 128, 257, maxNumber)},
			spot{num(o.Target[1]), beside(api.ErrTarget, numbers...)},
			spot{num(on), beside(api.ErrField, 2, 3, 127, 128, 129, 257, maxNumber)})
		holdsSpots(t, "M2", spots, askOp)
	}
}

// msgSpots: the fields of a message ahead of its command.
func msgSpots(m api.Msg) []spot {
	revs := []int{8193, 8194, 16384, maxNumber}
	if m.Code == api.Ack || m.Code == api.Cast {
		revs = append(revs, 0)
	}
	return []spot{
		{num(int(m.Code)), beside(api.ErrCode, 0, 5, 6, 127, 128, 129, 132, 257, maxNumber)},
		{num(m.Client), beside(api.ErrField, 0, 9, 127, 128, 129, 257, maxNumber)},
		{num(m.Rev), beside(api.ErrField, revs...)},
	}
}

func TestM4Hello(t *testing.T) {
	for _, m := range []api.Msg{hello(1, 0), hello(5, 130), hello(8, 8192)} {
		holdsSpots(t, "M4", msgSpots(m), askMsg)
	}
}

func TestM4Ack(t *testing.T) {
	for _, m := range []api.Msg{ack(1, 1, 1), ack(5, 130, 128), ack(8, 8192, 1024)} {
		holdsSpots(t, "M4", append(msgSpots(m), spot{num(m.Seq), beside(api.ErrField, 0, 1025, 1026, 16384, maxNumber)}), askMsg)
	}
}

// A command within a message has its own faults, counted from the message's first byte.
func TestM4Commands(t *testing.T) {
	a, b, c := ins(3, 17, 12, "a\u00e9"), hide(1, 300, 2, 5), status(8, 1024, 8, 1023, true)
	for _, rev := range []int{0, 1, 127, 128, 8192} {
		for _, make := range []func(client, rev int, o api.Op) api.Msg{submit, cast}[:1+min(rev, 1)] { // there is no cast of revision 0
			holdsSpots(t, "M4", append(append(msgSpots(make(3, rev, a)), headSpots(a.Kind, a.ID)...), spot{num(12), beside(api.ErrPlace, end+1, maxNumber)}, textSpot(12, a.Text)), askMsg)
			holdsSpots(t, "M4", append(append(append(msgSpots(make(1, rev, b)), headSpots(b.Kind, b.ID)...), spot{num(1), append(beside(api.ErrMany, 32769), wrong{num(0), 0, api.ErrNone, false})}), rangeSpots(0, b.Ranges[0])...), askMsg)
			holdsSpots(t, "M4", append(append(msgSpots(make(8, rev, c)), headSpots(c.Kind, c.ID)...), spot{num(8), beside(api.ErrTarget, 0, 9)}, spot{num(1023), beside(api.ErrTarget, 0, 1024, 1025)}, spot{num(1), beside(api.ErrField, 2)}), askMsg)
		}
	}
}

// Whose command is submitted is looked at behind all that is wrong with the command, and with what stands behind it.
func TestM4Foreign(t *testing.T) {
	for _, o := range rightOps() {
		whole := plainOp(o)
		for client := 1; client <= 8; client++ {
			for _, rev := range []int{0, 128, 8192} {
				b := join(num(2, client, rev), whole)
				start := len(b) - len(whole)
				at, e := askMsg(b)
				if client == o.ID[0] && (at != 0 || e != api.OK) || client != o.ID[0] && (at != start || e != api.ErrField) {
					t.Errorf("M4: client %d submits %.99v: %d, %d", client, o, at, e)
				}
				if at, e := askMsg(append(b, 7)); at != len(b) || e != api.ErrRest {
					t.Errorf("M4: client %d submits %.99v and a byte: %d, %d, want %d, ErrRest", client, o, at, e, len(b))
				}
				if at, e := askMsg(b[:len(b)-1]); at != len(b)-1 || e != api.ErrCut {
					t.Errorf("M4: client %d submits %.99v less a byte: %d, %d, want %d, ErrCut", client, o, at, e, len(b)-1)
				}
				c := join(num(4, client, 1), whole)
				if at, e := askMsg(c); at != 0 || e != api.OK {
					t.Errorf("M4: %.99v is cast to client %d: %d, %d", o, client, at, e)
				}
			}
		}
	}
	for _, c := range []struct {
		b  []byte
		at int
		e  api.Errno
	}{
		{num(2, 1, 0, 1, 2, 1, 0, 0), 7, api.ErrEmpty}, {num(2, 1, 0, 2, 2, 1, 0), 6, api.ErrNone}, {num(2, 1, 0, 4, 2, 1, 2, 1, 0), 7, api.ErrTarget}, {num(2, 1, 0, 4, 2, 1, 2, 2, 2), 8, api.ErrField}, {num(2, 1, 0, 4, 2, 1, 2, 2, 0), 3, api.ErrField}, {num(2, 1, 0, 3, 2), 3, api.ErrKind}, {num(2, 1, 0, 4, 9), 4, api.ErrID},
	} {
		if at, e := askMsg(c.b); at != c.at || e != c.e {
			t.Errorf("M4: Decode(%x) = %d, %d, want %d, %d", c.b, at, e, c.at, c.e)
		}
	}
}

// All bytes that are few, of a small choice.
func TestM2M4Short(t *testing.T) {
	choice := []byte{0, 1, 2, 3, 4, 5, 8, 9, 'a', 0x7f, 0x80, 0x81, 0xc3, 0xff}
	var all func(b []byte, left int)
	all = func(b []byte, left int) {
		holdsDecodeOp(t, b)
		holdsDecode(t, b)
		if left > 0 {
			for _, x := range choice {
				all(append(b[:len(b):len(b)], x), left-1)
			}
		}
	}
	all(nil, 4)
	for a := range 256 {
		for b := range 256 {
			holdsDecodeOp(t, []byte{1, byte(a), byte(b)})
			holdsDecodeOp(t, []byte{2, 1, 1, byte(a), byte(b)})
			holdsDecodeOp(t, []byte{1, 1, 1, 0, 2, byte(a), byte(b)})
			holdsDecodeOp(t, []byte{4, 1, 1, byte(a), byte(b), 1})
			holdsDecode(t, []byte{byte(a), byte(b)})
			holdsDecode(t, []byte{byte(a), 1, byte(b), 1})
			holdsDecode(t, []byte{3, 1, byte(a), byte(b)})
		}
	}
}

// Every number of the chapter, in the one field that holds it whole: a gap; and the numbers around.
func TestM2Numbers(t *testing.T) {
	r := rand.New(rand.NewSource(11))
	numbers := []int{0, 1, 126, 127, 128, 129, 255, 256, 16382, 16383, 16384, 16385, 1<<20 - 1, 1 << 20, 1<<21 - 1, 1 << 21, 1<<21 + 1, maxNumber - 1, maxNumber}
	for range 3000 {
		numbers = append(numbers, r.Intn(1<<(1+r.Intn(28))))
	}
	for _, n := range numbers {
		form := num(n)
		width := 1
		for _, bound := range []int{128, 16384, 2097152} {
			if n >= bound {
				width++
			}
		}
		if len(form) != width {
			t.Fatalf("Numbers: %d has %d bytes", n, len(form))
		}
		holdsDecodeOp(t, join(num(2, 1, 1, 1), form, num(1)))
		holdsDecodeOp(t, join(num(2, 1, 1, 1, 0), form))
		holdsDecodeOp(t, join(num(1, 1, 1), form, num(1), []byte("a")))
		for i := range form {
			holdsDecodeOp(t, join(num(2, 1, 1, 1), form[:i]))
		}
		// In one byte more than it needs, and two.
		for more := 1; more <= 3; more++ {
			wide := bytes.Clone(form)
			for range more {
				wide[len(wide)-1] |= 0x80
				wide = append(wide, 0)
			}
			b := join(num(2, 1, 1, 1), wide, num(1))
			if at, e := askOp(b); at != 4 || e != api.ErrNumber {
				t.Errorf("Numbers: %d as %x: %d, %d, want 4, ErrNumber", n, wide, at, e)
			}
			b = join(num(3), wide, num(1, 1))
			if at, e := askMsg(b); at != 1 || e != api.ErrNumber {
				t.Errorf("Numbers: %d as %x: %d, %d, want 1, ErrNumber", n, wide, at, e)
			}
		}
	}
	for n := range end + 2 {
		if n%7 == 0 || n > end-300 || n < 40000 {
			b := join(num(1, 1, 1, n, 1), []byte("a"))
			o, at, e := msg.DecodeOp(b)
			if n < end && (o.At != n || e != api.OK) || n == end && (at != len(b)-1 || e != api.ErrGrow) || n > end && (at != 3 || e != api.ErrPlace) {
				t.Fatalf("M2: an insert at %d: %v, %d, %d", n, o, at, e)
			}
		}
	}
}

// spoil: b with a change or some at random.
func spoil(r *rand.Rand, b []byte) []byte {
	b = bytes.Clone(b)
	for range 1 + r.Intn(3) {
		i := r.Intn(len(b) + 1)
		switch r.Intn(7) {
		case 0:
			b = b[:i]
		case 1:
			b = append(b, byte(r.Intn(256)))
		case 2:
			b = join(b[:i], []byte{[]byte{0, 1, 0x7f, 0x80, 0xff}[r.Intn(5)]}, b[i:])
		case 3:
			b = join(b[:i], b[min(len(b), i+1+r.Intn(3)):])
		default:
			if i < len(b) {
				b[i] = []byte{0, 1, 2, b[i] + 1, b[i] - 1, b[i] ^ 0x80, 0x80, 0xff, byte(r.Intn(256))}[r.Intn(9)]
			}
		}
	}
	return b
}

func TestM2M4Spoilt(t *testing.T) {
	for _, o := range rightOps() {
		if b := plainOp(o); len(b) < 40 {
			everyByte(t, b, holdsDecodeOp)
		}
	}
	for _, m := range someMsgs() {
		everyByte(t, plainMsg(m), holdsDecode)
	}
	r := rand.New(rand.NewSource(12))
	for range 60000 {
		holdsDecodeOp(t, spoil(r, plainOp(randomOp(r))))
		holdsDecode(t, spoil(r, plainMsg(randomMsg(r))))
	}
	for range 30000 {
		b := make([]byte, r.Intn(20))
		r.Read(b)
		holdsDecodeOp(t, b)
		holdsDecode(t, b)
	}
}

// everyByte: each byte of b made each other one.
func everyByte(t *testing.T, b []byte, holds func(t *testing.T, b []byte)) {
	t.Helper()
	for i := range b {
		for x := range 256 {
			c := bytes.Clone(b)
			c[i] = byte(x)
			holds(t, c)
		}
	}
}
