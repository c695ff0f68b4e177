package history_test

import (
	"testing"

	"redraft/api"
	"redraft/history"
)

// step: a Put and what it must answer.
type step struct {
	i    int
	o    api.Op
	want api.Op
	e    api.Errno
}

// made: a history through all steps. A wrong answer is told; the oracle is asked behind each of them.
func made(t *testing.T, h *history.History, w order, steps ...step) order {
	t.Helper()
	for _, s := range steps {
		x, e := h.Put(s.i, s.o)
		sameOp(t, x, e, s.want, s.e, "P6.3: Put(%d, %v)", s.i, s.o)
		next, y, f := w.wantPut(s.i, s.o)
		sameOp(t, y, f, s.want, s.e, "the oracle's Put(%d, %v)", s.i, s.o)
		w = next
		agree(t, h, w)
	}
	return w
}

var nothing = api.Op{}

func example1(t *testing.T) (*history.History, order) {
	t.Helper()
	h := history.New()
	return h, made(t, h, nil,
		step{0, ins(1, 1, 0, "abc"), effect(api.Ins, 0, "abc"), api.OK},
		step{1, hide(1, 2, 1, 2), effect(api.Hide, 0, "", 1, 2), api.OK},
		step{2, ins(1, 3, 1, "x"), effect(api.Ins, 1, "x"), api.OK})
}

func example2(t *testing.T) (*history.History, order) {
	t.Helper()
	h := history.New()
	return h, made(t, h, nil,
		step{0, ins(1, 1, 0, "ab"), effect(api.Ins, 0, "ab"), api.OK},
		step{1, ins(2, 1, 1, "x"), effect(api.Ins, 1, "x"), api.OK},
		step{2, hide(2, 2, 0, 1, 2, 3), effect(api.Hide, 0, "", 0, 1, 2, 3), api.OK},
		step{1, ins(1, 2, 1, "yz"), effect(api.Ins, 1, "yz"), api.OK})
}

func TestExample1(t *testing.T) {
	h, _ := example1(t)
	x, e := h.Entry(0)
	sameEntry(t, x, e, api.Entry{ID: api.ID{1, 1}, Kind: api.Ins, On: true, Ranges: list(0, 1, 2, 4)}, api.OK, "example 1: Entry(0)")
	x, e = h.Entry(1)
	sameEntry(t, x, e, api.Entry{ID: api.ID{1, 2}, Kind: api.Hide, On: true, Ranges: list(2, 3)}, api.OK, "example 1: Entry(1)")
	run, e := h.Ops(0, 3)
	sameRun(t, run, e, []api.Op{ins(1, 1, 0, "abc"), hide(1, 2, 1, 2), ins(1, 3, 1, "x")}, api.OK, "example 1: Ops(0, 3)")
	for _, c := range []struct {
		id   api.ID
		on   bool
		want api.Op
		e    api.Errno
	}{
		{api.ID{1, 2}, false, effect(api.Show, 0, "", 2, 3), api.OK},
		{api.ID{1, 2}, true, nothing, api.ErrTurned},
		{api.ID{1, 9}, true, nothing, api.ErrUnknown},
	} {
		got, e := h.Effect(c.id, c.on)
		sameOp(t, got, e, c.want, c.e, "example 1: Effect(%v, %v)", c.id, c.on)
	}
}

func TestExamples2And8(t *testing.T) {
	h, _ := example2(t)
	run, e := h.Ops(2, 4)
	sameRun(t, run, e, []api.Op{ins(2, 1, 3, "x"), hide(2, 2, 0, 1, 4, 5)}, api.OK, "example 2: Ops(2, 4)")
	x, e := h.Entry(3)
	sameEntry(t, x, e, api.Entry{ID: api.ID{2, 2}, Kind: api.Hide, On: true, Ranges: list(0, 1, 4, 5)}, api.OK, "example 2: Entry(3)")
	for client, want := range map[int]int{2: 2, 1: 2, 3: 0, -1: 0} {
		sameNumber(t, h.Last(client), api.OK, want, api.OK, "example 8: Last(%d)", client)
	}
	n, e := h.Find(api.ID{2, 1})
	sameNumber(t, n, e, 2, api.OK, "example 8: Find([2,1])")
}

func TestExample3(t *testing.T) {
	h, w := example1(t)
	made(t, h, w,
		step{3, status(2, 1, api.ID{1, 2}, false), effect(api.Show, 0, "", 2, 3), api.OK},
		step{4, status(2, 2, api.ID{1, 2}, false), nothing, api.OK},
		step{3, status(1, 4, api.ID{1, 2}, true), nothing, api.OK},
		step{5, status(3, 1, api.ID{1, 2}, true), nothing, api.OK},
		step{7, status(3, 2, api.ID{1, 2}, true), effect(api.Hide, 0, "", 2, 3), api.OK})
	x, e := h.Effect(api.ID{2, 1}, true)
	sameOp(t, x, e, nothing, api.ErrTarget, "example 3: Effect([2,1], true)")
}

func TestExample4(t *testing.T) {
	made(t, history.New(), nil,
		step{1, status(2, 1, api.ID{1, 1}, false), nothing, api.ErrPlace},
		step{0, status(2, 1, api.ID{1, 1}, false), nothing, api.ErrUnknown},
		step{0, ins(1, 1, 0, "a"), effect(api.Ins, 0, "a"), api.OK},
		step{1, ins(2, 1, 1, "b"), effect(api.Ins, 1, "b"), api.OK},
		step{1, status(3, 1, api.ID{2, 1}, false), nothing, api.ErrUnknown},
		step{2, status(3, 1, api.ID{2, 1}, false), effect(api.Hide, 0, "", 1, 2), api.OK},
		step{0, ins(1, 1, 0, "z"), nothing, api.ErrTwice},
		step{0, ins(3, 2, 1, "z"), nothing, api.ErrPlace})
}

// erased: is that what Erase answers?
func erased(t *testing.T, h *history.History, id api.ID, e api.Errno, want ...api.Op) {
	t.Helper()
	got, f := h.Erase(id)
	sameRun(t, got, f, want, e, "P6.8: Erase(%v)", id)
}

func TestExample5(t *testing.T) {
	h, _ := example1(t)
	erased(t, h, api.ID{1, 3}, api.OK, ins(1, 1, 0, "abc"), hide(1, 2, 1, 2))
	erased(t, h, api.ID{1, 2}, api.OK, ins(1, 1, 0, "abc"), ins(1, 3, 1, "x"))
	erased(t, h, api.ID{1, 1}, api.ErrInside)
}

// ofRun: the operations, each put at the end.
func ofRun(t *testing.T, run ...api.Op) (*history.History, order) {
	t.Helper()
	h := history.New()
	var w order
	for i, o := range run {
		if _, e := h.Put(i, o); e != api.OK {
			t.Fatal(cut("P6.3: Put(%d, %v) is refused with %d", i, o, int(e)))
		}
		w = w.with(i, o)
	}
	agree(t, h, w)
	return h, w
}

func TestExamples6And7(t *testing.T) {
	h, _ := ofRun(t, ins(1, 1, 0, "ab"), ins(1, 2, 2, "cd"), hide(2, 1, 0, 2), hide(2, 2, 1, 3))
	erased(t, h, api.ID{1, 2}, api.ErrInside)
	h, _ = ofRun(t, ins(1, 1, 0, "ab"), ins(1, 2, 2, "cd"), hide(2, 1, 0, 2), hide(2, 2, 0, 1))
	erased(t, h, api.ID{1, 2}, api.OK, ins(1, 1, 0, "ab"), hide(2, 1, 0, 2), hide(2, 2, 0, 1))
	h, _ = ofRun(t, ins(1, 1, 0, "ad"), ins(1, 2, 1, "bc"), ins(1, 3, 1, "x"), hide(1, 4, 0, 2, 4, 5))
	erased(t, h, api.ID{1, 2}, api.OK, ins(1, 1, 0, "ad"), ins(1, 3, 1, "x"), hide(1, 4, 0, 3))
}
