package msg_test

import (
	"math"
	"math/rand"
	"strings"
	"testing"

	"redraft/api"
	"redraft/msg"
)

// far: numbers around all bounds of the chapter, and those at the ends of what an int holds.
var far = []int{math.MinInt, math.MinInt + 1, -(1 << 32), -8192, -128, -2, -1, 0, 1, 2, 3, 4, 5, 7, 8, 9, 127, 128, 129, 255, 256, 257, 1023, 1024, 1025, 8191, 8192, 8193, 16383, 16384, 32768, end - 257, end - 256, end - 255, end - 1, end, end + 1, maxNumber, maxNumber + 1, 1<<32 + 1, math.MaxInt - 1, math.MaxInt}

// wrongOps: operations that may not travel, each error alone and with others behind it.
func wrongOps() []api.Op {
	on := func(o *api.Op) { o.On = true }
	long := strings.Repeat("\u00e9", 257)
	return []api.Op{
		{}, {Head: head(1, 1, 0), Text: "a"}, {Head: head(1, 1, 5)}, {Head: head(9, 9, -1)}, {Head: head(0, 0, math.MaxInt)}, {Head: head(1, 1, math.MinInt)}, {Head: head(1, 1, 1<<32+1), Text: "a"},
		show(1, 1, 0, 1), show(0, 0, 0, 1), show(9, 1, 0, 1), show(1, 1), show(1, 1, 1, 1), withOp(show(1, 1, 0, 1), on),
		ins(0, 0, 0, "x"), ins(0, 1, 0, "x"), ins(1, 0, 0, "x"), ins(9, 1, 0, "x"), ins(1, 1025, 0, "x"), ins(9, 1, -1, ""), withOp(ins(0, 0, 0, "x"), on), withOp(ins(1, 1, 0, ""), on), ins(0, 0, 0, ""),
		ins(1, 1, 0, ""), ins(1, 1, -1, ""), ins(1, 1, 0, "\xff"), ins(1, 1, -1, "a\x00"), ins(1, 1, 0, long), ins(1, 1, end, long), ins(1, 1, end, "x"), ins(1, 1, end-1, "ab"), ins(1, 1, end-255, long[:512]), ins(1, 1, end+1, "x"), ins(1, 1, -1, "x"), ins(0, 0, end, "x"),
		hide(0, 0, 0, 1), hide(1, 1), hide(0, 0), hide(1, 1, 1, 1), hide(1, 1, 2, 1), hide(1, 1, -1, 1), hide(1, 1, 0, end+1), hide(1, 1, 0, 2, 2, 3), hide(1, 1, 0, 2, 1, 3), hide(1, 1, 5, 6, 1, 2), {Head: head(1, 1, api.Hide), Ranges: teeth(0, 32769, 1, 1)}, withOp(hide(1, 1, 0, 1), on), withOp(hide(1, 1, 0, 1), func(o *api.Op) { o.Text = "a" }), withOp(hide(1, 1, 0, 1), func(o *api.Op) { o.At = 1 }),
		status(0, 0, 1, 1, true), status(1, 1, 1, 1, true), status(0, 0, 0, 0, true), status(1, 1, 0, 0, true), status(1, 1, 9, 1, true), status(1, 1, 8, 1025, false), status(1, 1, 0, 1, false), status(9, 1, 9, 1, true), withOp(status(1, 1, 2, 1, false), func(o *api.Op) { o.Ranges = list(0, 1) }), withOp(status(1, 1, 2, 1, false), func(o *api.Op) { o.At = -1 }),
	}
}

func TestM1Right(t *testing.T) {
	for _, o := range append(rightOps(), greatOps()...) {
		if e := wantOp(o); e != api.OK {
			t.Fatalf("%.99v is not right: %d", o, e)
		}
		holdsEncodeOp(t, o)
		// Rule 13: a list without elements is none.
		if o.Kind != api.Hide {
			holdsEncodeOp(t, withOp(o, func(o *api.Op) { o.Ranges = []api.Range{} }))
		}
	}
}

func TestM1Refused(t *testing.T) {
	for _, o := range wrongOps() {
		if wantOp(o) == api.OK {
			t.Fatalf("%.99v is right", o)
		}
		holdsEncodeOp(t, o)
	}
	for _, c := range []struct {
		o api.Op
		e api.Errno
	}{
		{show(0, 0, 0, 1), api.ErrKind}, {show(1, 1), api.ErrNone}, {ins(0, 0, 0, "x"), api.ErrID}, {ins(0, 0, 0, ""), api.ErrEmpty}, {ins(0, 0, end, "x"), api.ErrGrow}, {ins(0, 1, end, "x"), api.ErrID}, {hide(0, 0, 0, 2, 2, 3), api.ErrOrder}, {status(0, 0, 0, 0, true), api.ErrTarget}, {status(0, 0, 1, 1, true), api.ErrID}, {withOp(ins(0, 0, 0, ""), func(o *api.Op) { o.On = true }), api.ErrExtra},
	} {
		if b, e := msg.EncodeOp(c.o); len(b) != 0 || e != c.e {
			t.Errorf("M1: EncodeOp(%v) = %x, %d, want %d", c.o, b, e, c.e)
		}
	}
}

// Each field of each kind at its bounds, beside them, and far from them.
func TestM1Bounds(t *testing.T) {
	for _, n := range far {
		for _, o := range []api.Op{ins(1, 2, 3, "a\u00e9"), ins(1, 2, 3, strings.Repeat("\u20ac", 256)), hide(3, 4, 5, 6, 8, 9), status(5, 6, 7, 8, true), show(1, 1, 0, 1)} {
			for _, change := range []func(o *api.Op){
				func(o *api.Op) { o.ID[0] = n }, func(o *api.Op) { o.ID[1] = n }, func(o *api.Op) { o.Kind = api.Kind(n) }, func(o *api.Op) { o.At = n }, func(o *api.Op) { o.Target[0] = n }, func(o *api.Op) { o.Target[1] = n },
				func(o *api.Op) { o.Ranges = []api.Range{{Lo: n, Hi: 10}} }, func(o *api.Op) { o.Ranges = []api.Range{{Lo: 0, Hi: n}} }, func(o *api.Op) { o.Ranges = []api.Range{{Lo: 0, Hi: 7}, {Lo: n, Hi: end}} },
			} {
				holdsEncodeOp(t, withOp(o, change))
			}
		}
	}
}

// manyChanges: a message with each field at a number, and with commands of all sorts.
func manyChanges(n int) []func(m *api.Msg) {
	return []func(m *api.Msg){
		func(m *api.Msg) { m.Code = api.MsgCode(n) }, func(m *api.Msg) { m.Client = n }, func(m *api.Msg) { m.Rev = n }, func(m *api.Msg) { m.Seq = n }, func(m *api.Msg) { m.Op.ID[0] = n }, func(m *api.Msg) { m.Op.ID[1] = n }, func(m *api.Msg) { m.Op.Kind = api.Kind(n) }, func(m *api.Msg) { m.Op.At = n }, func(m *api.Msg) { m.Op.Target[0] = n }, func(m *api.Msg) { m.Op.Target[1] = n },
	}
}

// someMsgs: one message or more of each code.
func someMsgs() []api.Msg {
	return []api.Msg{hello(3, 7), submit(1, 7, ins(1, 2, 3, "a\u00e9")), submit(3, 0, hide(3, 4, 5, 6)), submit(5, 8192, status(5, 6, 7, 8, true)), ack(3, 7, 9), cast(2, 7, ins(1, 2, 3, "a\u00e9")), cast(3, 1, hide(3, 4, 5, 6)), cast(8, 8192, status(5, 6, 7, 8, true))}
}

func TestM3Right(t *testing.T) {
	for _, m := range rightMsgs() {
		if e := wantMsg(m); e != api.OK {
			t.Fatalf("%.99v is not right: %d", m, e)
		}
		holdsEncode(t, m)
		if m.Op.Kind != api.Hide {
			holdsEncode(t, withMsg(m, func(m *api.Msg) { m.Op.Ranges = []api.Range{} }))
		}
	}
	for _, o := range greatOps() {
		holdsEncode(t, cast(8, 8192, o))
		holdsEncode(t, submit(o.ID[0], 8192, o))
	}
}

// Each code with each field at its bounds, beside them, and far from them; two fields at once.
func TestM3Bounds(t *testing.T) {
	for _, m := range someMsgs() {
		for _, n := range far {
			for _, change := range manyChanges(n) {
				holdsEncode(t, withMsg(m, change))
			}
		}
		few := []int{math.MinInt, -1, 0, 1, 2, 3, 4, 5, 8, 9, 1024, 1025, 8192, 8193, math.MaxInt}
		for _, n := range few {
			for _, first := range manyChanges(n) {
				for _, k := range few {
					for _, second := range manyChanges(k) {
						holdsEncode(t, withMsg(withMsg(m, first), second))
					}
				}
			}
		}
	}
}

// Fields that a code does not use, each alone.
func TestM3Extra(t *testing.T) {
	extras := []func(m *api.Msg){
		func(m *api.Msg) { m.Op.ID[0] = 1 }, func(m *api.Msg) { m.Op.ID[1] = 1 }, func(m *api.Msg) { m.Op.Kind = 1 }, func(m *api.Msg) { m.Op.At = 1 }, func(m *api.Msg) { m.Op.Text = "a" }, func(m *api.Msg) { m.Op.Text = "\xff" }, func(m *api.Msg) { m.Op.Ranges = list(0, 0) }, func(m *api.Msg) { m.Op.Ranges = list(0, 1) }, func(m *api.Msg) { m.Op.Target[0] = 1 }, func(m *api.Msg) { m.Op.Target[1] = -1 }, func(m *api.Msg) { m.Op.On = true }, func(m *api.Msg) { m.Op = status(2, 8, 3, 17, false) },
	}
	seq := func(m *api.Msg) { m.Seq = -1 }
	for _, m := range []api.Msg{hello(1, 0), hello(8, 8193), ack(1, 1, 1), ack(8, 0, 0)} {
		for _, change := range extras {
			refusedMsg(t, withMsg(m, change), api.ErrExtra)
		}
	}
	for _, m := range []api.Msg{hello(1, 0), submit(1, 0, ins(1, 1, 0, "x")), cast(1, 1, ins(1, 1, 0, "x")), submit(1, -1, api.Op{}), cast(1, 0, api.Op{})} {
		refusedMsg(t, withMsg(m, seq), api.ErrExtra)
	}
	// Of what carries a command, what its kind doesn't use is the command's own error.
	refusedMsg(t, cast(1, 1, withOp(ins(1, 1, 0, "x"), func(o *api.Op) { o.On = true })), api.ErrExtra)
	refusedMsg(t, cast(1, 0, withOp(ins(1, 1, 0, "x"), func(o *api.Op) { o.On = true })), api.ErrField)
	holdsEncode(t, withMsg(hello(1, 0), func(m *api.Msg) { m.Op.Ranges = []api.Range{} }))
	holdsEncode(t, withMsg(ack(1, 1, 1), func(m *api.Msg) { m.Op.Ranges = []api.Range{} }))
}

func refusedMsg(t *testing.T, m api.Msg, e api.Errno) {
	t.Helper()
	if b, f := msg.Encode(m); len(b) != 0 || f != e {
		t.Errorf("M3: Encode(%.200v) = %x, %d, want %d", m, b, f, e)
	}
	holdsEncode(t, m)
}

// M3's numbers, in their order: each with all that stand behind it.
func TestM3Order(t *testing.T) {
	bad := ins(9, 1, 0, "")
	all := api.Msg{Code: 0, Client: 0, Rev: -1, Seq: -1, Op: bad}
	refusedMsg(t, all, api.ErrCode)
	refusedMsg(t, withMsg(all, func(m *api.Msg) { m.Code = 5 }), api.ErrCode)
	for code := api.Hello; code <= api.Cast; code++ {
		m := withMsg(all, func(m *api.Msg) { m.Code = code })
		refusedMsg(t, m, api.ErrField)
		m.Client = 9
		refusedMsg(t, m, api.ErrField)
		m.Client = 1
		refusedMsg(t, m, api.ErrExtra)
	}
	refusedMsg(t, submit(1, -1, bad), api.ErrField)
	refusedMsg(t, cast(1, 0, bad), api.ErrField)
	refusedMsg(t, submit(1, 0, bad), api.ErrID)
	refusedMsg(t, submit(2, 0, ins(1, 1, 0, "")), api.ErrEmpty)
	refusedMsg(t, submit(2, 0, ins(1, 1, 0, "a")), api.ErrField)
	refusedMsg(t, submit(2, 0, api.Op{}), api.ErrKind)
	refusedMsg(t, submit(1, 0, show(1, 1, 0, 1)), api.ErrKind)
	refusedMsg(t, submit(1, 0, ins(0, 0, 0, "a")), api.ErrID)
	refusedMsg(t, ack(1, 8193, 0), api.ErrField)
	refusedMsg(t, ack(1, 8192, 0), api.ErrField)
	refusedMsg(t, ack(1, 8192, 1025), api.ErrField)
	// A cast is of anybody's command.
	holdsEncode(t, cast(2, 1, ins(1, 1, 0, "a")))
	holdsEncode(t, cast(1, 1, ins(1, 1, 0, "a")))
}

func TestM3Commands(t *testing.T) {
	for _, o := range wrongOps() {
		for client := range 10 {
			refusedBoth(t, submit(client, 1, o), cast(client, 1, o))
		}
	}
	for _, o := range rightOps() {
		for client := range 10 {
			holdsEncode(t, submit(client, 0, o))
			holdsEncode(t, cast(client, 1, o))
			holdsEncode(t, cast(client, 0, o))
		}
	}
}

func refusedBoth(t *testing.T, list ...api.Msg) {
	t.Helper()
	for _, m := range list {
		if _, e := msg.Encode(m); e == api.OK {
			t.Errorf("M3: Encode(%.200v) has no error", m)
		}
		holdsEncode(t, m)
	}
}

// randomText: a text of n runes, of one byte to four.
func randomText(r *rand.Rand, n int) string {
	var out []rune
	for range n {
		out = append(out, []rune{'a', '\n', '~', 0xe9, 0x7ff, 0x800, 0x20ac, 0xfffd, 0x10000, 0x1f600, 0x10fffd}[r.Intn(11)])
	}
	return string(out)
}

// randomOp: a command that may travel.
func randomOp(r *rand.Rand) api.Op {
	size := func() int { return 1 + r.Intn(1<<r.Intn(15)) }
	o := api.Op{Head: head(1+r.Intn(8), 1+r.Intn(1024), []api.Kind{1, 2, 4}[r.Intn(3)])}
	switch o.Kind {
	case api.Ins:
		o.Text = randomText(r, 1+r.Intn(1<<r.Intn(9)))
		o.At = r.Intn(min(1<<r.Intn(21), end-255))
	case api.Hide:
		at := r.Intn(1 << r.Intn(15))
		for n := 1 + size()%60; n > 0 && at < end/2; n-- {
			to := at + size()
			o.Ranges = append(o.Ranges, api.Range{Lo: at, Hi: to})
			at = to + size()
		}
		if r.Intn(20) == 0 {
			o.Ranges = append(o.Ranges, api.Range{Lo: at, Hi: end})
		}
	case api.Status:
		for o.Target = o.ID; o.Target == o.ID; {
			o.Target = api.ID{1 + r.Intn(8), 1 + r.Intn(1024)}
		}
		o.On = r.Intn(2) == 0
	}
	return o
}

// randomMsg: a message that may travel.
func randomMsg(r *rand.Rand) api.Msg {
	m := api.Msg{Code: api.MsgCode(1 + r.Intn(4)), Client: 1 + r.Intn(8), Rev: 1 + r.Intn(1<<r.Intn(14))}
	switch m.Code {
	case api.Submit, api.Cast:
		m.Op = randomOp(r)
		if m.Code == api.Submit {
			m.Client = m.Op.ID[0]
		}
	case api.Ack:
		m.Seq = 1 + r.Intn(1024)
	}
	return m
}

func TestM7RandomEncoded(t *testing.T) {
	r := rand.New(rand.NewSource(10))
	for range 20000 {
		o, m := randomOp(r), randomMsg(r)
		if e, f := wantOp(o), wantMsg(m); e != api.OK || f != api.OK {
			t.Fatalf("%.99v, %.99v: not right, %d, %d", o, m, e, f)
		}
		holdsEncodeOp(t, o)
		holdsEncode(t, m)
	}
}
