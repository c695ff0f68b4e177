package xform_test

import (
	"slices"
	"testing"
	"unsafe"

	"redraft/api"
	"redraft/op"
	"redraft/xform"
)

// roomy: an operation whose ranges have spare room behind them, with something in it.
func roomy(o api.Op) api.Op {
	o.Ranges = append(slices.Clone(o.Ranges), list(90, 91, 92, 93)...)[:len(o.Ranges)]
	return o
}

func roomyRun(run []api.Op) []api.Op {
	var out []api.Op
	for _, o := range run {
		out = append(out, roomy(o))
	}
	return append(out, ins(a1, 77, "room"), ins(a1, 78, "room"))[:len(run)]
}

// whole: all that a run's memory holds, spare room too, in new memory.
func whole(run []api.Op) []api.Op {
	var out []api.Op
	for _, o := range run[:cap(run)] {
		o.Ranges = slices.Clone(o.Ranges[:cap(o.Ranges)])
		out = append(out, o)
	}
	return out
}

func scribble(run []api.Op) {
	for i, o := range run[:cap(run)] {
		for j := range o.Ranges[:cap(o.Ranges)] {
			o.Ranges[:cap(o.Ranges)][j] = api.Range{Lo: -7, Hi: -8}
		}
		run[:cap(run)][i] = api.Op{At: -9}
	}
}

// calls: each call as one from two runs to the runs that it answers.
func calls() map[string]func(x, y []api.Op) [][]api.Op {
	return map[string]func(x, y []api.Op) [][]api.Op{
		"Include": func(x, y []api.Op) [][]api.Op {
			o, _ := xform.Include(x[0], y[0], true)
			return [][]api.Op{{o}}
		},
		"Exclude": func(x, y []api.Op) [][]api.Op {
			o, _ := xform.Exclude(x[0], y[0])
			return [][]api.Op{{o}}
		},
		"Transpose": func(x, y []api.Op) [][]api.Op {
			o, p, _ := xform.Transpose(x[0], y[0])
			return [][]api.Op{{o}, {p}}
		},
		"Over": func(x, y []api.Op) [][]api.Op {
			o, _ := xform.Over(x[0], true, y...)
			return [][]api.Op{{o}}
		},
		"Over nothing": func(x, y []api.Op) [][]api.Op {
			o, _ := xform.Over(x[0], true)
			return [][]api.Op{{o}}
		},
		"Cross": func(x, y []api.Op) [][]api.Op {
			f, l, _ := xform.Cross(x, y)
			return [][]api.Op{f, l}
		},
		"Bring": func(x, y []api.Op) [][]api.Op {
			out, _ := xform.Bring(x, 0, len(x)-1)
			return [][]api.Op{out}
		},
		"Bring back": func(x, y []api.Op) [][]api.Op {
			out, _ := xform.Bring(x, len(x)-1, 0)
			return [][]api.Op{out}
		},
		"Caret": func(x, y []api.Op) [][]api.Op {
			xform.Caret(3, x[0])
			return nil
		},
	}
}

// pairsOfRuns: runs that are taken, moved and not moved, and some that are refused.
func pairsOfRuns() [][2][]api.Op {
	moved := []api.Op{hide(a1, 2, 5, 7, 9), hide(a2, 0, 1), ins(a3, 0, "abc")}
	other := []api.Op{hide(b1, 0, 1, 3, 4), ins(b2, 3, "xy")}
	return [][2][]api.Op{
		{moved, other},
		{other, moved},
		{moved, {ins(b1, 3, "x")}},
		{{ins(a1, 1, "ab"), hide(a2, 4, 6)}, {show(b1, 0, 2, 3, 5)}},
		{{show(a1, 0, 2, 3, 5)}, {status(b1, a2, true), ins(b2, 1, "q")}},
		{moved, moved},
		{{hide(a1, end-1, end)}, {ins(b1, 0, "x")}},
		{{hide(a1, 2, 2)}, other},
	}
}

// P5.1 and DOC.md's rule 11: written over afterwards, answers change nobody else; what is handed in stays as it was.
func TestP5_1NewMemory(t *testing.T) {
	for name, call := range calls() {
		for i, pair := range pairsOfRuns() {
			x, y := roomyRun(pair[0]), roomyRun(pair[1])
			wasX, wasY := whole(x), whole(y)
			want := call(pair[0], pair[1])
			got := call(x, y)
			apartInside(t, name, got)
			for k := range got {
				if !slices.EqualFunc(got[k], want[k], op.Equal) {
					t.Errorf("P5.1: %s of pair %d: spare room tells: %v, want %v", name, i, got[k], want[k])
				}
				scribble(got[k])
			}
			if !slices.EqualFunc(whole(x), wasX, op.Equal) || !slices.EqualFunc(whole(y), wasY, op.Equal) {
				t.Errorf("P5.1: %s changed what was handed in, of pair %d", name, i)
			}
			again := call(x, y)
			scribble(x)
			scribble(y)
			for k := range again {
				if !slices.EqualFunc(again[k], want[k], op.Equal) {
					t.Errorf("P5.1: %s of pair %d keeps what was handed in: %v", name, i, again[k])
				}
			}
		}
	}
}

// apartInside: does each operation that is answered still stand when every other one has been written over?
func apartInside(t *testing.T, name string, got [][]api.Op) {
	t.Helper()
	var all []api.Op
	for _, run := range got {
		all = append(all, run...)
	}
	for i, o := range all {
		was := op.Clone(o)
		for j, p := range all {
			if i == j {
				continue
			}
			kept := slices.Clone(p.Ranges[:cap(p.Ranges)])
			for k := range kept {
				p.Ranges[:cap(p.Ranges)][k] = api.Range{Lo: -5, Hi: -6}
			}
			if !op.Equal(o, was) {
				t.Errorf("P5.1: %s: two operations of one answer share memory", name)
			}
			copy(p.Ranges[:cap(p.Ranges)], kept)
		}
	}
}

// Two operations handed in that share their memory don't share it in the answer.
func TestP5_1ArgumentsThatShare(t *testing.T) {
	shared := list(1, 2, 4, 6)
	a, b := cover(a1, api.Hide, shared...), cover(b1, api.Hide, shared...)
	x, y, e := xform.Transpose(a, b)
	x.Ranges[0] = api.Range{Lo: -1, Hi: -1}
	sameOp(t, y, e, hide(a1, 1, 2, 4, 6), api.OK, "P5.1: Transpose of two that share")
	f, l, e := xform.Cross([]api.Op{a}, []api.Op{b})
	f[0].Ranges[0] = api.Range{Lo: -1, Hi: -1}
	sameOp(t, l[0], e, hide(b1, 1, 2, 4, 6), api.OK, "P5.1: Cross of two that share")
	run := []api.Op{a, b}
	out, e := xform.Bring(run, 0, 1)
	out[0].Ranges[0] = api.Range{Lo: -1, Hi: -1}
	sameOp(t, out[1], e, hide(a1, 1, 2, 4, 6), api.OK, "P5.1: Bring of two that share")
	first, later, e := xform.Cross(run, []api.Op{withID(a, b2)})
	first = append(first[:1], ins(a1, 0, "x"))
	sameRun(t, later, e, []api.Op{hide(b2, 1, 2, 4, 6)}, api.OK, "P5.1: Cross, behind an append to first")
	if !slices.Equal(shared, list(1, 2, 4, 6)) {
		t.Errorf("P5.1: what was handed in is %v now", shared)
	}
}

// Texts are memory too: a text that is cut out of a great one doesn't hold it.
func TestP5_1Texts(t *testing.T) {
	text := string([]byte{'a', 'b', 'c'})
	a := ins(a1, 3, text)
	shares := func(o api.Op) bool { return unsafe.StringData(o.Text) == unsafe.StringData(text) }
	o, _ := xform.Include(a, ins(b1, 0, "x"), true)
	p, _ := xform.Exclude(a, ins(b1, 0, "x"))
	q, r, _ := xform.Transpose(a, ins(b1, 0, "x"))
	s, _ := xform.Over(a, true)
	f, l, _ := xform.Cross([]api.Op{a}, []api.Op{ins(b1, 0, text)})
	run, _ := xform.Bring([]api.Op{a}, 0, 0)
	for i, got := range []api.Op{o, p, q, r, s, f[0], l[0], run[0]} {
		if shares(got) || got.Text == "" {
			t.Errorf("P5.1: answer %d shares its text: %v", i, got)
		}
	}
}

// DOC.md, rule 13: nil and a list without elements are one and the same.
func TestRule13NoRanges(t *testing.T) {
	empty := ins(a1, 3, "x")
	empty.Ranges = []api.Range{}
	turned := status(b1, a3, true)
	turned.Ranges = []api.Range{}
	got, e := xform.Include(empty, ins(b1, 0, "y"), true)
	sameOp(t, got, e, ins(a1, 4, "x"), api.OK, "rule 13: Include")
	x, y, e := xform.Transpose(empty, turned)
	sameRun(t, []api.Op{x, y}, e, []api.Op{status(b1, a3, true), ins(a1, 3, "x")}, api.OK, "rule 13: Transpose")
	got, e = xform.Include(cover(a1, api.Hide, []api.Range{}...), empty, true)
	sameOp(t, got, e, api.Op{}, api.ErrNone, "rule 13: Include of a Hide of nothing")
}
