package archive_test

import (
	"bytes"
	"fmt"
	"strings"
	"testing"

	"redraft/api"
	"redraft/archive"
	"redraft/msg"
)

// wrong: a frame, or what stands in its stead, which may not stand at its place, and the error that it gives.
type wrong struct {
	what string
	b    []byte
	e    api.Errno
}

// turned: b with a bit of one byte turned.
func turned(b []byte, at int, mask byte) []byte {
	out := bytes.Clone(b)
	out[at] ^= mask
	return out
}

// noFrames: what is wrong wherever a frame is asked for. (What is cut ends the bytes: frames behind it would be taken for its payload.)
func noFrames(right []byte) []wrong {
	return []wrong{
		{"another mark", turned(right, 0, 1), api.ErrMark},
		{"another second byte", turned(right, 1, 0x80), api.ErrMark},
		{"another length", turned(right, 4, 1), api.ErrMark},
		{"a guard that is none", turned(right, 7, 1), api.ErrMark},
		{"one byte between", join([]byte{0}, right), api.ErrMark},
		{"too big", unguarded(api.MaxPayload + 1), api.ErrBig},
		{"the greatest length", unguarded(1<<24 - 1), api.ErrBig},
		{"another checksum", turned(right, 11, 1), api.ErrSum},
		{"another payload", turned(right, len(right)-1, 1), api.ErrSum},
	}
}

// unguarded: the first bytes of a frame of so many bytes.
func unguarded(n int) []byte {
	l := four(n)[1:]
	return join([]byte{0xc7, 0x9d}, l, []byte{^l[0], ^l[1], ^l[2]}, make([]byte, 20))
}

func wrongHeads(kind byte) []wrong {
	rest := map[byte][]byte{1: nil, 2: join(four(1), plainSum(plainOp(ins(1, 1, 0, "ab"))))}[kind]
	all := join([]byte("redraft\x01"), []byte{kind}, rest)
	out := noFrames(framed(all))
	add := func(what string, e api.Errno, p ...[]byte) { out = append(out, wrong{what, framed(p...), e}) }
	for n := range 9 {
		add(fmt.Sprintf("%d bytes of the head", n), api.ErrFormat, all[:n])
	}
	for i := range 7 {
		for bit := range 8 {
			add("another word", api.ErrFormat, turned(all, i, 1<<bit))
		}
	}
	add("a blank ahead", api.ErrFormat, []byte(" "), all)
	add("a great letter", api.ErrFormat, bytes.ToUpper(all[:7]), all[7:])
	for _, v := range []byte{0, 2, 3, 0x31, 0x81, 255} {
		for _, k := range []byte{0, 1, 2, 3, 255} {
			add("another version", api.ErrVersion, []byte("redraft"), []byte{v, k}, rest)
			add("another version, too short", api.ErrVersion, []byte("redraft"), []byte{v, k})
			add("another version, too long", api.ErrVersion, []byte("redraft"), []byte{v, k}, rest, []byte{0})
			add("another word and version", api.ErrFormat, []byte("redrafT"), []byte{v, k}, rest)
			add("no kind", api.ErrFormat, []byte("redraft"), []byte{v})
		}
	}
	for _, k := range []byte{0, 1, 2, 3, 0x31, 0x81, 255} {
		if k != kind {
			add("another kind", api.ErrFormat, []byte("redraft\x01"), []byte{k}, rest)
			add("another kind, nothing behind", api.ErrFormat, []byte("redraft\x01"), []byte{k})
			add("another kind, eight bytes behind", api.ErrFormat, []byte("redraft\x01"), []byte{k}, make([]byte, 8))
		}
	}
	for n := range 20 {
		if n != len(rest) {
			add(fmt.Sprintf("%d bytes behind the kind", n), api.ErrFormat, all[:9], rest[:min(n, len(rest))], make([]byte, max(0, n-len(rest))))
		}
	}
	return out
}

// wrongPayloads: what neither a command nor a foot begins with.
func wrongPayloads() []wrong {
	out := []wrong{{"an empty payload", framed(), api.ErrFormat}}
	for first := range 256 {
		if first == 'c' || first == 'e' {
			continue
		}
		for _, rest := range [][]byte{nil, four(0), join(four(1), plainOp(ins(1, 2, 0, "cd"))), make([]byte, 12)} {
			out = append(out, wrong{fmt.Sprintf("a payload that begins with %x", first), framed([]byte{byte(first)}, rest), api.ErrFormat})
		}
	}
	return append(out, wrong{"a second head", headFrame(), api.ErrFormat})
}

// noCommands: bytes that msg.DecodeOp refuses, with each of its numbers.
func noCommands() []wrong {
	var out []wrong
	add := func(e api.Errno, b ...byte) { out = append(out, wrong{fmt.Sprintf("the command %x", b), b, e}) }
	add(api.ErrCut)
	add(api.ErrCut, 1)
	add(api.ErrCut, 1, 1, 1, 0, 2, 'a')
	add(api.ErrKind, 0, 1, 1)
	add(api.ErrKind, 3, 1, 1, 1, 0, 1)
	add(api.ErrKind, 5)
	add(api.ErrID, 1, 0, 1, 0, 1, 'a')
	add(api.ErrID, 1, 9, 1, 0, 1, 'a')
	add(api.ErrID, 1, 1, 0, 0, 1, 'a')
	add(api.ErrID, 1, 1, 0x81, 0x08, 0, 1, 'a')
	add(api.ErrNumber, 1, 1, 0x81, 0, 0, 1, 'a')
	add(api.ErrPlace, 1, 1, 1, 0x81, 0x80, 0x40, 1, 'a')
	add(api.ErrGrow, 1, 1, 1, 0x80, 0x80, 0x40, 1, 'a')
	add(api.ErrEmpty, 1, 1, 1, 0, 0)
	add(api.ErrLong, 1, 1, 1, 0, 0x81, 0x08)
	add(api.ErrLong, append([]byte{1, 1, 1, 0, 0x81, 0x02}, strings.Repeat("a", 257)...)...)
	add(api.ErrUtf8, 1, 1, 1, 0, 1, 0xff)
	add(api.ErrRune, 1, 1, 1, 0, 1, 0)
	add(api.ErrNone, 2, 1, 1, 0)
	add(api.ErrMany, 2, 1, 1, 0x81, 0x80, 0x02)
	add(api.ErrOrder, 2, 1, 1, 2, 0, 1, 0, 1)
	add(api.ErrRange, 2, 1, 1, 1, 0, 0)
	add(api.ErrRange, 2, 1, 1, 1, 0x80, 0x80, 0x40, 1)
	add(api.ErrTarget, 4, 1, 1, 1, 1, 0)
	add(api.ErrTarget, 4, 1, 1, 9, 1, 0)
	add(api.ErrField, 4, 1, 1, 1, 2, 2)
	add(api.ErrRest, 1, 1, 1, 0, 1, 'a', 0)
	return out
}

// wrongCommands: what may not stand where the command of this number is asked for, which right is.
func wrongCommands(turn int, right api.Op) []wrong {
	whole := join([]byte("c"), four(turn), plainOp(right))
	out := append(noFrames(framed(whole)), wrongPayloads()...)
	for n := 1; n < 5; n++ {
		out = append(out, wrong{fmt.Sprintf("%d bytes of a command", n), framed(whole[:n]), api.ErrFormat})
		out = append(out, wrong{fmt.Sprintf("%d bytes of another number", n), framed([]byte{'c', 9, 9, 9}[:n]), api.ErrFormat})
	}
	for _, k := range []int{0, 1, 2, 3, turn - 1, turn + 1, turn + 256, turn + 1<<16, turn + 1<<24, turn << 8, turn<<24 + 1<<24, 1<<31 + turn, 1<<32 - 1, 8191, 8192} {
		if uint32(k) == uint32(turn) {
			continue
		}
		number := four(k)
		for _, b := range [][]byte{plainOp(right), nil, {3}, {1, 1, 1, 0, 1, 0xff}, bytes.Repeat([]byte{0xff}, 30)} {
			out = append(out, wrong{fmt.Sprintf("the number %d", k), framed([]byte("c"), number, b), api.ErrIndex})
		}
	}
	for _, x := range noCommands() {
		out = append(out, wrong{x.what, framed([]byte("c"), four(turn), x.b), x.e})
	}
	return out
}

// wrongFeet: what may not stand where the foot of these commands is asked for. (A command of the next number may; so none is here.)
func wrongFeet(turn int, ops ...api.Op) []wrong {
	own := footPayload(ops)
	n, cells, sum := len(ops), plainCells(ops), own[9:]
	out := append(noFrames(footFrame(ops...)), wrongPayloads()...)
	add := func(what string, e api.Errno, p ...[]byte) { out = append(out, wrong{what, framed(p...), e}) }
	for k := 1; k < 13; k++ {
		add(fmt.Sprintf("%d bytes of a foot", k), api.ErrFormat, own[:k])
		add(fmt.Sprintf("%d bytes of another foot", k), api.ErrFormat, bytes.Repeat([]byte{'e'}, k))
	}
	add("one byte more", api.ErrFormat, own, []byte{0})
	add("another foot and one byte more", api.ErrFormat, []byte("e"), four(n+1, cells), sum, []byte{0})
	add("another foot, very long", api.ErrFormat, []byte("e"), make([]byte, 500))
	for _, d := range []int{1, -1, 2, 256, 1 << 16, 1 << 24, 1 << 31} {
		for _, s := range [][]byte{sum, turned(sum, 0, 1)} {
			add(fmt.Sprintf("%d commands more", d), api.ErrCount, []byte("e"), four(n+d, cells), s)
			add(fmt.Sprintf("%d cells more", d), api.ErrCount, []byte("e"), four(n, cells+d), s)
			add(fmt.Sprintf("%d of both more", d), api.ErrCount, []byte("e"), four(n+d, cells+d), s)
			add("one of both more, one fewer", api.ErrCount, []byte("e"), four(n+d, cells-d), s)
		}
	}
	if n != cells {
		add("both exchanged", api.ErrCount, []byte("e"), four(cells, n), sum)
	}
	for i := range 4 {
		for bit := range 8 {
			add("another checksum", api.ErrSum, []byte("e"), four(n, cells), turned(sum, i, 1<<bit))
		}
	}
	add("the checksum's bytes turned round", api.ErrSum, []byte("e"), four(n, cells), []byte{sum[3], sum[2], sum[1], sum[0]})
	add("no commands' checksum", api.ErrSum, []byte("e"), four(n, cells, 0))
	add("the checksum of the commands' frames", api.ErrSum, []byte("e"), four(n, cells), plainSum(join(frames(ops...)[1:n+1]...)))
	for _, k := range []int{turn - 1, turn + 1, turn + 256, 1<<32 - 1} {
		if k >= 0 {
			add("a command out of its turn", api.ErrIndex, []byte("c"), four(k), plainOp(ins(8, 1, 0, "x")))
		}
	}
	return out
}

// tails: what may stand behind the foot: nothing.
func tails() []wrong {
	var out []wrong
	for i, b := range [][]byte{{0}, {0xc7}, {0xc7, 0x9d}, make([]byte, 40), footFrame(), headFrame(), archiveOf(), framed(), commandFrame(2, ins(3, 1, 0, "x"))} {
		out = append(out, wrong{fmt.Sprintf("tail %d", i), b, api.ErrTail})
	}
	return out
}

var (
	readA = ins(1, 1, 0, "ab")
	readB = ins(2, 1, 1, "c\u00e9")
)

// spots: an archive of two commands, or a delta of one behind one: its frames, and what may not stand in their stead.
func spots(kind byte) (right [][]byte, bad [][]wrong) {
	if kind == 1 {
		right = append(frames(readA, readB), nil)
		return right, [][]wrong{wrongHeads(1), wrongCommands(0, readA), wrongCommands(1, readB), wrongFeet(2, readA, readB), tails()}
	}
	right = append(framesFrom(deltaHead(1, plainSum(plainOp(readA))), 1, []api.Op{readB}), nil)
	return right, [][]wrong{wrongHeads(2), wrongCommands(1, readB), wrongFeet(2, readB), tails()}
}

// askArchive: all calls that read b as an archive answer e and nothing else.
func askArchive(t *testing.T, what string, b []byte, e api.Errno) {
	t.Helper()
	right := archiveOf(ins(5, 1, 0, "right"))
	if s, f := archive.Tell(b); s != (api.Summary{}) || f != e {
		t.Errorf("P22.3: %s: Tell = %v, %d, want %d", what, s, f, e)
	}
	if v, f := archive.Load(b); v != nil || f != e {
		t.Errorf("P22.4: %s: Load = %v, %d, want %d", what, v, f, e)
	}
	if l, f := archive.Ops(b); len(l) != 0 || f != e {
		t.Errorf("P22.5: %s: Ops = %v, %d, want %d", what, l, f, e)
	}
	for _, k := range []int{-1, 0, 1, 2, 3} {
		if c, f := archive.Cut(b, k); len(c) != 0 || f != e {
			t.Errorf("P22.6: %s: Cut(.., %d) = %x, %d, want %d", what, k, c, f, e)
		}
	}
	for _, pair := range [][2][]byte{{b, right}, {right, b}, {b, nil}, {b, b}} {
		if j, n, f := archive.Join(pair[0], pair[1]); len(j) != 0 || n != 0 || f != e {
			t.Errorf("P22.7: %s: Join = %x, %d, %d, want %d", what, j, n, f, e)
		}
		if d, f := archive.Delta(pair[0], pair[1]); len(d) != 0 || f != e {
			t.Errorf("P22.8: %s: Delta = %x, %d, want %d", what, d, f, e)
		}
	}
	for _, d := range [][]byte{nil, b, deltaOf(nil, nil)} {
		if p, f := archive.Patch(b, d); len(p) != 0 || f != e {
			t.Errorf("P22.9: %s: Patch = %x, %d, want %d", what, p, f, e)
		}
	}
}

// askDelta: b is read as a delta, whatever its base: Patch answers e and nothing else.
func askDelta(t *testing.T, what string, b []byte, e api.Errno) {
	t.Helper()
	for _, a := range [][]byte{archiveOf(readA), archiveOf(), archiveOf(ins(2, 1, 0, "qr"))} {
		if p, f := archive.Patch(a, b); len(p) != 0 || f != e {
			t.Errorf("P22.9: %s: Patch = %x, %d, want %d", what, p, f, e)
		}
	}
}

func asker(kind byte) func(t *testing.T, what string, b []byte, e api.Errno) {
	if kind == 1 {
		return askArchive
	}
	return askDelta
}

// Each error of 'Reading an archive' at its place, whatever stands behind it.
func TestEachErrorAlone(t *testing.T) {
	for kind := byte(1); kind <= 2; kind++ {
		right, bad := spots(kind)
		for i, list := range bad {
			for _, w := range list {
				rest := join(right[i+1:]...)
				b := join(join(right[:i]...), w.b)
				what := fmt.Sprintf("kind %d, frame %d: %s", kind, i, w.what)
				if i == len(right)-1 {
					b = join(join(right...), w.b)
				}
				asker(kind)(t, what, join(b, rest), w.e)
				asker(kind)(t, what+", nothing behind", b, w.e)
				asker(kind)(t, what+", junk behind", join(b, make([]byte, 30)), w.e)
			}
		}
	}
}

// Each error with each later one: the one that is found first is told. Of many of a kind some are taken.
func TestEachErrorWithLaterOnes(t *testing.T) {
	for kind := byte(1); kind <= 2; kind++ {
		right, bad := spots(kind)
		for i, list := range bad {
			for k := i + 1; k < len(bad); k++ {
				for x, w := range list {
					later := bad[k][(x*7)%len(bad[k])]
					b := bytes.Clone(join(right[:i]...))
					b = join(b, w.b, join(right[i+1:k]...), later.b, join(right[k+1:]...))
					want := plainRead(b, kind).e
					if want != w.e {
						t.Fatalf("the oracle reads %s and %s as %d", w.what, later.what, want)
					}
					asker(kind)(t, fmt.Sprintf("kind %d, frame %d: %s, frame %d: %s", kind, i, w.what, k, later.what), b, w.e)
				}
			}
		}
	}
}

// What msg.DecodeOp refuses, it refuses with these numbers; all of them are met.
func TestEachNumberOfCommands(t *testing.T) {
	met := map[api.Errno]bool{}
	for _, x := range noCommands() {
		if _, _, e := msg.DecodeOp(x.b); e != x.e {
			t.Errorf("%s: %d, want %d", x.what, e, x.e)
		}
		met[x.e] = true
	}
	if len(met) != 17 {
		t.Errorf("%d numbers are met", len(met))
	}
}

// Where the bytes end, whatever was read: no foot at all.
func TestNoFoot(t *testing.T) {
	for kind := byte(1); kind <= 2; kind++ {
		right, _ := spots(kind)
		for i := range len(right) - 1 {
			b := join(right[:i]...)
			asker(kind)(t, fmt.Sprintf("kind %d, %d frames", kind, i), b, api.ErrShort)
			for n := 1; n < len(right[i]); n++ {
				asker(kind)(t, fmt.Sprintf("kind %d, %d frames and %d bytes", kind, i, n), join(b, right[i][:n]), api.ErrShort)
			}
		}
	}
	// Commands behind the foot are a tail, not commands; commands without end are no archive.
	asker(1)(t, "the foot first", join(headFrame(), footFrame(), commandFrame(0, readA)), api.ErrTail)
	asker(1)(t, "only a foot", footFrame(), api.ErrFormat)
	asker(1)(t, "only a command", commandFrame(0, readA), api.ErrFormat)
	asker(1)(t, "nothing", nil, api.ErrShort)
}

// A delta's numbers begin with what its head tells, whatever it is; none comes behind the greatest.
func TestDeltaNumbers(t *testing.T) {
	one, two := ins(3, 1, 0, "xy"), ins(3, 2, 0, "z")
	for _, n := range []int{0, 1, 2, 255, 256, 257, 8191, 8192, 8193, 65535, 65536, 1<<24 - 1, 1 << 24, 1<<31 - 1, 1 << 31, 1<<32 - 2, 1<<32 - 1} {
		head := deltaHead(n, plainSum(nil))
		empty := join(head, footFrame())
		right := join(framesFrom(head, n, []api.Op{one})...)
		e := api.ErrApart
		if n == 0 {
			e = api.OK
		}
		for _, b := range [][]byte{empty, right} {
			if p, f := archive.Patch(archiveOf(), b); f != e {
				t.Errorf("P22.9: a delta behind %d commands: %x, %d, want %d", n, p, f, e)
			}
		}
		e = api.ErrApart
		if n == 1<<32-1 {
			e = api.ErrIndex
		}
		b := join(head, commandFrame(n, one), commandFrame(n+1, two), footFrame(one, two))
		if p, f := archive.Patch(archiveOf(readA), b); len(p) != 0 || f != e {
			t.Errorf("P22.9: a delta of two behind %d commands: %x, %d, want %d", n, p, f, e)
		}
		b = join(head, commandFrame(n, one), commandFrame(n, two), footFrame(one, two))
		askDelta(t, "a number twice", b, api.ErrIndex)
		if n > 0 {
			askDelta(t, "numbered from 0 on", join(head, commandFrame(0, one), footFrame(one)), api.ErrIndex)
			askDelta(t, "a foot of the base too", join(head, commandFrame(n, one), framed([]byte("e"), four(n+1, 2), plainSum(plainOp(one)))), api.ErrCount)
		}
	}
}

// An archive is no delta, and a delta no archive.
func TestKinds(t *testing.T) {
	askDelta(t, "an archive", archiveOf(readA), api.ErrFormat)
	askDelta(t, "an empty archive", archiveOf(), api.ErrFormat)
	askArchive(t, "a delta", deltaOf([]api.Op{readA}, []api.Op{readB}), api.ErrFormat)
	askArchive(t, "a delta of nothing behind nothing", deltaOf(nil, nil), api.ErrFormat)
}
