package history_test

import (
	"slices"
	"testing"
	"unsafe"

	"redraft/api"
	"redraft/history"
	"redraft/op"
)

// roomy: an operation whose ranges have spare room behind them, with something in it.
func roomy(o api.Op) api.Op {
	o.Ranges = append(slices.Clone(o.Ranges), list(90, 91, 92, 93)...)[:len(o.Ranges)]
	return o
}

// scribble: all ranges are written over, spare room too.
func scribble(ranges []api.Range) {
	all := ranges[:cap(ranges)]
	for i := range all {
		all[i] = api.Range{Lo: -7, Hi: -8}
	}
}

func scribbleRun(run []api.Op) {
	for _, o := range run {
		scribble(o.Ranges)
	}
	all := run[:cap(run)]
	for i := range all {
		all[i] = api.Op{At: -9}
	}
}

// mixed: commands of all kinds, at all places, with effects of all kinds.
func mixed() []step {
	return []step{
		{0, ins(1, 1, 0, "abcdef"), effect(api.Ins, 0, "abcdef"), api.OK},
		{1, hide(1, 2, 0, 2, 3, 5), effect(api.Hide, 0, "", 0, 2, 3, 5), api.OK},
		{2, ins(2, 1, 1, "xy"), effect(api.Ins, 1, "xy"), api.OK},
		{1, hide(2, 2, 1, 3, 5, 6), effect(api.Hide, 0, "", 3, 5, 7, 8), api.OK},
		{4, status(2, 3, api.ID{1, 2}, false), effect(api.Show, 0, "", 0, 1, 3, 4, 5, 7), api.OK},
		{1, ins(3, 1, 4, "pq"), effect(api.Ins, 6, "pq"), api.OK},
		{6, status(3, 2, api.ID{1, 1}, false), effect(api.Hide, 0, "", 0, 1, 3, 6, 8, 10), api.OK},
		{2, hide(3, 3, 0, 1, 2, 3), effect(api.Hide, 0, "", 0, 1, 4, 5), api.OK},
	}
}

// asked: every query's answers, as what can be written over.
func asked(h *history.History) (runs [][]api.Op, lists [][]api.Range) {
	for i := range h.Len() {
		x, _ := h.Entry(i)
		lists = append(lists, x.Ranges)
		for _, on := range []bool{false, true} {
			o, _ := h.Effect(x.ID, on)
			lists = append(lists, o.Ranges)
		}
		left, _ := h.Erase(x.ID)
		run, _ := h.Ops(i, h.Len())
		runs = append(runs, left, run)
	}
	return runs, lists
}

func TestP6_1HandedIn(t *testing.T) {
	h := history.New()
	var w order
	for _, s := range mixed() {
		o := roomy(s.o)
		was := slices.Clone(o.Ranges[:cap(o.Ranges)])
		x, e := h.Put(s.i, o)
		sameOp(t, x, e, s.want, s.e, "P6.1: Put(%d, %v) with spare room", s.i, s.o)
		if !slices.Equal(o.Ranges[:cap(o.Ranges)], was) {
			t.Error(cut("P6.1: Put has changed what was handed in: %v", s.o))
		}
		w = w.with(s.i, s.o)
		scribble(o.Ranges)
		agree(t, h, w)
		sameOp(t, x, e, s.want, s.e, "P6.1: what Put(%d, %v) answered, behind a change of what was handed in", s.i, s.o)
	}
}

func TestP6_1HandedOut(t *testing.T) {
	h := history.New()
	var w order
	for _, s := range mixed() {
		x, _ := h.Put(s.i, s.o)
		scribble(x.Ranges)
		w = w.with(s.i, s.o)
		agree(t, h, w)
		runs, lists := asked(h)
		for _, run := range runs {
			apartInside(t, run)
			scribbleRun(run)
		}
		for _, l := range lists {
			scribble(l)
		}
		agree(t, h, w)
	}
}

// apartInside: does each operation of an answer stand when every other one has been written over, spare room too?
func apartInside(t *testing.T, run []api.Op) {
	t.Helper()
	for i, o := range run {
		was := op.Clone(o)
		for j, other := range run {
			if i == j {
				continue
			}
			kept := slices.Clone(other.Ranges[:cap(other.Ranges)])
			scribble(other.Ranges)
			if !op.Equal(o, was) {
				t.Error(cut("P6.1: two operations of one answer share memory: %v, %v", i, j))
			}
			copy(other.Ranges[:cap(other.Ranges)], kept)
		}
	}
}

// What was answered stays as it was when the history goes on.
func TestP6_1AnswersStay(t *testing.T) {
	h := history.New()
	var answers []api.Op
	for _, s := range mixed() {
		x := put(t, h, s.i, s.o)
		answers = append(answers, x)
	}
	runs, lists := asked(h)
	var kept [][]api.Op
	for _, run := range runs {
		kept = append(kept, cloned(run))
	}
	var keptLists [][]api.Range
	for _, l := range lists {
		keptLists = append(keptLists, slices.Clone(l))
	}
	for k := range 5 {
		put(t, h, k, ins(4, k+1, 0, "new"))
		put(t, h, h.Len(), ins(5, k+1, k, "new"))
	}
	for i, s := range mixed() {
		sameOp(t, answers[i], api.OK, s.want, api.OK, "P6.1: the effect %d, behind others", i)
	}
	for i, run := range runs {
		sameRun(t, run, api.OK, kept[i], api.OK, "P6.1: the run %d, behind others", i)
	}
	for i, l := range lists {
		if !slices.Equal(l, keptLists[i]) {
			t.Error(cut("P6.1: a list, behind others, is %v, was %v", l, keptLists[i]))
		}
	}
}

func cloned(run []api.Op) []api.Op {
	var out []api.Op
	for _, o := range run {
		out = append(out, op.Clone(o))
	}
	return out
}

// Texts are memory too: a text that is cut out of a great one doesn't hold it.
func TestP6_1Texts(t *testing.T) {
	text := string([]byte{'a', 'b', 'c'})
	h := history.New()
	x := put(t, h, 0, ins(1, 1, 0, text))
	y := put(t, h, 0, ins(1, 2, 0, text))
	run, _ := h.Ops(0, 2)
	again, _ := h.Ops(0, 2)
	left, _ := h.Erase(api.ID{1, 1})
	right, _ := h.Erase(api.ID{1, 2})
	seen := map[*byte]bool{unsafe.StringData(text): true}
	for i, o := range slices.Concat([]api.Op{x, y}, run, again, left, right) {
		if at := unsafe.StringData(o.Text); seen[at] || o.Text != text {
			t.Errorf("P6.1: answer %d shares its text: %v", i, o)
		} else {
			seen[at] = true
		}
	}
}

// Histories share nothing: what comes into one is not seen in another that was made of its Ops.
func TestP6_1HistoriesAreApart(t *testing.T) {
	p := newPair()
	for _, s := range mixed() {
		p.put(t, s.i, s.o)
	}
	q := p.again(t)
	w := p.w
	p.put(t, 0, ins(4, 1, 0, "new"))
	p.put(t, p.h.Len(), status(4, 2, api.ID{1, 1}, true))
	agree(t, q.h, w)
	agree(t, p.h, p.w)
}

// DOC.md, rule 13: nil and a list without elements are one and the same.
func TestRule13NoRanges(t *testing.T) {
	h := history.New()
	o := ins(1, 1, 0, "abc")
	o.Ranges = []api.Range{}
	put(t, h, 0, o)
	o = status(1, 2, api.ID{1, 1}, false)
	o.Ranges = []api.Range{}
	put(t, h, 1, o)
	o = hide(1, 3)
	o.Ranges = []api.Range{}
	still(t, h, 2, o, api.ErrNone)
	agree(t, h, order(nil).with(0, ins(1, 1, 0, "abc")).with(1, status(1, 2, api.ID{1, 1}, false)))
}
