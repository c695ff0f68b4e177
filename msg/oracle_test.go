package msg_test

import (
	"bytes"
	"encoding/hex"
	"slices"
	"strings"
	"testing"
	"unicode/utf8"

	"redraft/api"
	"redraft/frame"
	"redraft/msg"
	"redraft/op"
	"redraft/utext"
)

// The oracle reads the chapter's tables row by row: a field's faults stand in a list, and behind the first fault nothing more is looked at.

const (
	end       = 1048576
	maxNumber = 268435455
)

func head(c, n int, kind api.Kind) api.Head {
	return api.Head{ID: api.ID{c, n}, Kind: kind}
}

func ins(c, n, at int, text string) api.Op {
	return api.Op{Head: head(c, n, api.Ins), At: at, Text: text}
}

func hide(c, n int, ends ...int) api.Op {
	return api.Op{Head: head(c, n, api.Hide), Ranges: list(ends...)}
}

func show(c, n int, ends ...int) api.Op {
	return api.Op{Head: head(c, n, api.Show), Ranges: list(ends...)}
}

func status(c, n, tc, tn int, on bool) api.Op {
	return api.Op{Head: head(c, n, api.Status), Target: api.ID{tc, tn}, On: on}
}

// list: the ranges whose ends are the numbers, two by two.
func list(ends ...int) []api.Range {
	var out []api.Range
	for i := 0; i < len(ends); i += 2 {
		out = append(out, api.Range{Lo: ends[i], Hi: ends[i+1]})
	}
	return out
}

// teeth: n ranges of width places each, the first at at, with gap places between.
func teeth(at, n, width, gap int) []api.Range {
	var out []api.Range
	for i := range n {
		lo := at + i*(width+gap)
		out = append(out, api.Range{Lo: lo, Hi: lo + width})
	}
	return out
}

func withOp(o api.Op, change func(o *api.Op)) api.Op {
	change(&o)
	return o
}

func withMsg(m api.Msg, change func(m *api.Msg)) api.Msg {
	change(&m)
	return m
}

func hello(client, rev int) api.Msg { return api.Msg{Code: api.Hello, Client: client, Rev: rev} }

func submit(client, rev int, o api.Op) api.Msg {
	return api.Msg{Code: api.Submit, Client: client, Rev: rev, Op: o}
}

func ack(client, rev, seq int) api.Msg {
	return api.Msg{Code: api.Ack, Client: client, Rev: rev, Seq: seq}
}

func cast(client, rev int, o api.Op) api.Msg {
	return api.Msg{Code: api.Cast, Client: client, Rev: rev, Op: o}
}

func unhex(t *testing.T, s string) []byte {
	t.Helper()
	b, err := hex.DecodeString(strings.ReplaceAll(s, " ", ""))
	if err != nil {
		t.Fatal(err)
	}
	return b
}

func join(lists ...[]byte) []byte { return bytes.Join(lists, nil) }

// short: bytes as the messages of tests show them.
func short(b []byte) string {
	if len(b) > 60 {
		return hex.EncodeToString(b[:60]) + ".."
	}
	return hex.EncodeToString(b)
}

func sameMsg(a, b api.Msg) bool {
	return a.Code == b.Code && a.Client == b.Client && a.Rev == b.Rev && a.Seq == b.Seq && sameOp(a.Op, b.Op)
}

func sameOp(a, b api.Op) bool {
	return a.Head == b.Head && a.At == b.At && a.Text == b.Text && slices.Equal(a.Ranges, b.Ranges) && a.Target == b.Target && a.On == b.On
}

// num: numbers in their shortest form, one behind the other.
func num(numbers ...int) []byte {
	var out []byte
	for _, n := range numbers {
		out = append(out, byte(n%128))
		for n /= 128; n > 0; n /= 128 {
			out[len(out)-1] += 128
			out = append(out, byte(n%128))
		}
	}
	return out
}

// plainOp: the bytes of a command that may travel.
func plainOp(o api.Op) []byte {
	out := num(int(o.Kind), o.ID[0], o.ID[1])
	switch o.Kind {
	case 1:
		return join(out, num(o.At, len(o.Text)), []byte(o.Text))
	case 2:
		out = join(out, num(len(o.Ranges)))
		for i, x := range o.Ranges {
			ahead := 0
			if i > 0 {
				ahead = o.Ranges[i-1].Hi
			}
			out = append(out, num(x.Lo-ahead, x.Hi-x.Lo)...)
		}
		return out
	}
	on := map[bool]int{true: 1, false: 0}
	return join(out, num(o.Target[0], o.Target[1], on[o.On]))
}

// plainMsg: the bytes of a message that may travel.
func plainMsg(m api.Msg) []byte {
	out := num(int(m.Code), m.Client, m.Rev)
	switch m.Code {
	case 2, 4:
		return join(out, plainOp(m.Op))
	case 3:
		return join(out, num(m.Seq))
	}
	return out
}

// rows: bytes that are read row by row; the first fault stays.
type rows struct {
	b  []byte
	i  int
	at int
	e  api.Errno
}

func (s *rows) fault(applies bool, at int, e api.Errno) {
	if applies && s.e == api.OK {
		s.at, s.e = at, e
	}
}

// row: what a table says of a number: an error, and whether it applies.
type row struct {
	e       api.Errno
	applies func(n int) bool
}

func not(low, high int) func(n int) bool { return func(n int) bool { return n < low || n > high } }

func is(x int) func(n int) bool { return func(n int) bool { return n == x } }

func (s *rows) number(table ...row) int {
	if s.e != api.OK {
		return 0
	}
	first := s.i
	var read []byte
	for len(read) < 4 && (len(read) == 0 || read[len(read)-1] >= 0x80) {
		if s.i == len(s.b) {
			s.fault(true, len(s.b), api.ErrCut)
			return 0
		}
		read = append(read, s.b[s.i])
		s.i++
	}
	last := read[len(read)-1]
	s.fault(last >= 0x80, first, api.ErrNumber)
	s.fault(last == 0 && len(read) > 1, first, api.ErrNumber)
	n := 0
	for _, x := range slices.Backward(read) {
		n = n*128 + int(x)%128
	}
	for _, r := range table {
		s.fault(r.applies(n), first, r.e)
	}
	return n
}

func (s *rows) rest() { s.fault(s.i < len(s.b), s.i, api.ErrRest) }

func (s *rows) op() api.Op {
	var o api.Op
	o.Kind = api.Kind(s.number(row{api.ErrKind, func(n int) bool { return n != 1 && n != 2 && n != 4 }}))
	o.ID[0] = s.number(row{api.ErrID, not(1, 8)})
	o.ID[1] = s.number(row{api.ErrID, not(1, 1024)})
	switch o.Kind {
	case 1:
		o.At = s.number(row{api.ErrPlace, not(0, 1048576)})
		n := s.number(row{api.ErrEmpty, is(0)}, row{api.ErrLong, not(0, 1024)})
		o.Text = s.text(o.At, n)
	case 2:
		n := s.number(row{api.ErrNone, is(0)}, row{api.ErrMany, not(0, 32768)})
		hi := 0
		for i := 0; i < n && s.e == api.OK; i++ {
			gap := s.number(row{api.ErrOrder, func(n int) bool { return n == 0 && i > 0 }})
			lo := hi + gap
			hi = lo + s.number(row{api.ErrRange, is(0)}, row{api.ErrRange, func(n int) bool { return lo+n > 1048576 }})
			o.Ranges = append(o.Ranges, api.Range{Lo: lo, Hi: hi})
		}
	case 4:
		o.Target[0] = s.number(row{api.ErrTarget, not(1, 8)})
		o.Target[1] = s.number(row{api.ErrTarget, not(1, 1024)}, row{api.ErrTarget, func(n int) bool { return o.ID == api.ID{o.Target[0], n} }})
		o.On = s.number(row{api.ErrField, not(0, 1)}) == 1
	}
	s.rest()
	return o
}

func (s *rows) text(at, n int) string {
	if s.e != api.OK {
		return ""
	}
	first := s.i
	if first+n > len(s.b) {
		s.fault(true, len(s.b), api.ErrCut)
		return ""
	}
	text := string(s.b[first : first+n])
	_, where, e := utext.Check(text)
	s.fault(e != api.OK, first+where, e)
	s.fault(utf8.RuneCountInString(text) > 256, first, api.ErrLong)
	s.fault(at+utf8.RuneCountInString(text) > 1048576, first, api.ErrGrow)
	s.i += n
	return text
}

func (s *rows) msg() api.Msg {
	var m api.Msg
	m.Code = api.MsgCode(s.number(row{api.ErrCode, not(1, 4)}))
	m.Client = s.number(row{api.ErrField, not(1, 8)})
	m.Rev = s.number(row{api.ErrField, not(0, 8192)}, row{api.ErrField, func(n int) bool { return n == 0 && (m.Code == 3 || m.Code == 4) }})
	switch m.Code {
	case 2, 4:
		first := s.i
		if s.e == api.OK {
			m.Op = s.op()
		}
		s.fault(m.Code == 2 && m.Op.ID[0] != m.Client, first, api.ErrField)
	case 3:
		m.Seq = s.number(row{api.ErrField, not(1, 1024)})
	}
	s.rest()
	return m
}

func wantDecodeOp(b []byte) (api.Op, int, api.Errno) {
	s := &rows{b: b}
	if o := s.op(); s.e == api.OK {
		return o, 0, api.OK
	}
	return api.Op{}, s.at, s.e
}

func wantDecode(b []byte) (api.Msg, int, api.Errno) {
	s := &rows{b: b}
	if m := s.msg(); s.e == api.OK {
		return m, 0, api.OK
	}
	return api.Msg{}, s.at, s.e
}

// wantOp: M1. (What op.Inverse refuses is just what has an error of its own.)
func wantOp(o api.Op) api.Errno {
	_, e := op.Inverse(o)
	switch {
	case e != api.OK:
		return e
	case o.Kind == 3:
		return api.ErrKind
	case o.ID == api.ID{0, 0}:
		return api.ErrID
	}
	return api.OK
}

// wantMsg: M3, number by number.
func wantMsg(m api.Msg) api.Errno {
	carries := m.Code == 2 || m.Code == 4
	for _, r := range []struct {
		e       api.Errno
		applies bool
	}{
		{api.ErrCode, m.Code < 1 || m.Code > 4},
		{api.ErrField, m.Client < 1 || m.Client > 8},
		{api.ErrExtra, m.Code != 3 && m.Seq != 0},
		{api.ErrExtra, !carries && !sameOp(m.Op, api.Op{})},
		{api.ErrField, m.Rev < 0 || m.Rev > 8192},
		{api.ErrField, m.Rev == 0 && (m.Code == 3 || m.Code == 4)},
		{api.ErrField, m.Code == 3 && (m.Seq < 1 || m.Seq > 1024)},
		{wantOp(m.Op), carries && wantOp(m.Op) != api.OK},
		{api.ErrField, m.Code == 2 && m.Op.ID[0] != m.Client},
	} {
		if r.applies {
			return r.e
		}
	}
	return api.OK
}

// holdsEncodeOp: EncodeOp of o beside the oracle, and back.
func holdsEncodeOp(t *testing.T, o api.Op) {
	t.Helper()
	var want []byte
	e := wantOp(o)
	if e == api.OK {
		want = plainOp(o)
	}
	got, f := msg.EncodeOp(o)
	if !bytes.Equal(got, want) || f != e {
		t.Fatalf("M1: EncodeOp(%.200v) = %s, %d, want %s, %d", o, short(got), f, short(want), e)
	}
	if e != api.OK {
		return
	}
	if back, at, f := msg.DecodeOp(got); !sameOp(back, o) || at != 0 || f != api.OK {
		t.Fatalf("M7: DecodeOp(EncodeOp(%.200v)) = %.200v, %d, %d", o, back, at, f)
	}
}

// holdsEncode: Encode and Seal of m beside the oracle, and back.
func holdsEncode(t *testing.T, m api.Msg) {
	t.Helper()
	var want []byte
	e := wantMsg(m)
	if e == api.OK {
		want = plainMsg(m)
	}
	got, f := msg.Encode(m)
	if !bytes.Equal(got, want) || f != e {
		t.Fatalf("M3: Encode(%.200v) = %s, %d, want %s, %d", m, short(got), f, short(want), e)
	}
	if e != api.OK {
		return
	}
	if back, at, f := msg.Decode(got); !sameMsg(back, m) || at != 0 || f != api.OK {
		t.Fatalf("M7: Decode(Encode(%.200v)) = %.200v, %d, %d", m, back, at, f)
	}
}

// holdsDecodeOp: DecodeOp of b beside the oracle, and back.
func holdsDecodeOp(t *testing.T, b []byte) {
	t.Helper()
	want, at, e := wantDecodeOp(b)
	in := bytes.Clone(b)
	got, n, f := msg.DecodeOp(in)
	if !sameOp(got, want) || n != at || f != e || !bytes.Equal(in, b) {
		t.Fatalf("M2: DecodeOp(%s) of %d bytes = %.200v, %d, %d, want %.200v, %d, %d", short(b), len(b), got, n, f, want, at, e)
	}
	if e != api.OK {
		return
	}
	if back, f := msg.EncodeOp(got); !bytes.Equal(back, b) || f != api.OK {
		t.Fatalf("M7: EncodeOp(DecodeOp(%s)) = %s, %d", short(b), short(back), f)
	}
}

// holdsDecode: Decode of b, and Unseal of its frame, beside the oracle, and back.
func holdsDecode(t *testing.T, b []byte) {
	t.Helper()
	want, at, e := wantDecode(b)
	in := bytes.Clone(b)
	got, n, f := msg.Decode(in)
	if !sameMsg(got, want) || n != at || f != e || !bytes.Equal(in, b) {
		t.Fatalf("M4: Decode(%s) of %d bytes = %.200v, %d, %d, want %.200v, %d, %d", short(b), len(b), got, n, f, want, at, e)
	}
	whole, _ := frame.Wrap(b)
	if got, f := msg.Unseal(whole); !sameMsg(got, want) || f != e {
		t.Fatalf("M6: Unseal of a frame of %s = %.200v, %d, want %.200v, %d", short(b), got, f, want, e)
	}
	if e != api.OK {
		return
	}
	if back, f := msg.Encode(got); !bytes.Equal(back, b) || f != api.OK {
		t.Fatalf("M7: Encode(Decode(%s)) = %s, %d", short(b), short(back), f)
	}
}

// rightOps: commands of each kind, those at the bounds among them.
func rightOps() []api.Op {
	out := []api.Op{
		ins(1, 1, 0, "x"), ins(3, 17, 12, "a\u00e9"), ins(8, 1024, end-1, "\u20ac"), ins(7, 127, 127, "\U0001f600"), ins(6, 128, 128, "\n\t\"\\~"), ins(5, 129, 16383, "h\u00e9\u20ac\U0001f600"), ins(2, 1023, 16384, "\ufffd"), ins(1, 2, end-256, strings.Repeat("b", 256)),
		hide(1, 300, 2, 5, 9, 10), hide(8, 1024, 0, end), hide(1, 1, 0, 1), hide(2, 2, end-1, end), hide(3, 3, 127, 254, 255, 256, 384, 512), hide(4, 4, 128, 255, 383, 511), hide(5, 5, 0, 16383, 16384, 32767, 49151, 65535), hide(6, 6, 1, 2, 3, 4, end-1, end),
		status(2, 8, 3, 17, false), status(1, 1, 1, 2, true), status(1, 2, 1, 1, true), status(8, 1024, 8, 1023, false), status(8, 1024, 7, 1024, true), status(1, 127, 8, 128, true), status(1, 128, 8, 127, false),
		{Head: head(4, 4, api.Hide), Ranges: teeth(1, 40, 3, 130)}, {Head: head(4, 4, api.Hide), Ranges: teeth(0, 127, 1, 1)}, {Head: head(4, 4, api.Hide), Ranges: teeth(0, 128, 1, 1)},
	}
	for i, r := range []string{"a", "\u00e9", "\u20ac", "\U0001f600"} {
		for _, n := range []int{1, 2, 31, 32, 63, 64, 127, 128, 255, 256} {
			out = append(out, ins(1+i, n, end-n, strings.Repeat(r, n)), ins(8-i, 1024-n, 0, strings.Repeat(r, n)))
		}
	}
	return out
}

// greatOps: commands with as many ranges as may be.
func greatOps() []api.Op {
	return []api.Op{
		{Head: head(1, 1, api.Hide), Ranges: teeth(0, 32768, 1, 1)}, {Head: head(8, 1024, api.Hide), Ranges: teeth(1, 32768, 1, 31)}, {Head: head(8, 1024, api.Hide), Ranges: teeth(end-32768*32, 32768, 31, 1)}, {Head: head(8, 1024, api.Hide), Ranges: teeth(0, 32767, 2, 2)},
		{Head: head(1, 1, api.Hide), Ranges: append(teeth(0, 7740, 1, 128), teeth(7740*129, 32768-7740, 1, 1)...)},
	}
}

// rightMsgs: messages of each code, with each field at its bounds, and each of the commands in both codes that carry one.
func rightMsgs() []api.Msg {
	var out []api.Msg
	revs := []int{1, 2, 127, 128, 129, 1024, 8191, 8192}
	for _, client := range []int{1, 2, 7, 8} {
		out = append(out, hello(client, 0), submit(client, 0, ins(client, 1, 0, "x")))
		for _, rev := range revs {
			out = append(out, hello(client, rev), submit(client, rev, hide(client, 1, 0, 1)), cast(client, rev, hide(8, 1, 0, 1)))
			for _, seq := range []int{1, 2, 127, 128, 1023, 1024} {
				out = append(out, ack(client, rev, seq))
			}
		}
	}
	for i, o := range rightOps() {
		out = append(out, submit(o.ID[0], revs[i%8], o), cast(1+i%8, revs[i%8], o), cast(o.ID[0], 8192, o))
	}
	return out
}
