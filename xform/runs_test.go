package xform_test

import (
	"math"
	"math/rand"
	"slices"
	"testing"

	"redraft/api"
	"redraft/xform"
)

// ids: enough of them that most runs have unlike ones, few enough that some meet.
var ids = []api.ID{none, {1, 1}, {1, 2}, {1, 3}, {2, 1}, {2, 2}, {3, 1}, {4, 1}, {5, 1}, {6, 1}, {7, 1}, {8, 1}, {8, 2}, {8, 3}}

// dice: runs out of the bodies, with ids at random.
type dice struct {
	r   *rand.Rand
	all []api.Op
}

func newDice(seed int64) dice {
	return dice{rand.New(rand.NewSource(seed)), bodies()}
}

func (d dice) op() api.Op {
	for {
		o := withID(d.all[d.r.Intn(len(d.all))], ids[d.r.Intn(len(ids))])
		if right(o) {
			return o
		}
	}
}

func (d dice) run(most int) []api.Op {
	var out []api.Op
	for range d.r.Intn(most + 1) {
		out = append(out, d.op())
	}
	return out
}

// met: how often each error was the answer.
type met [64]int

func (m *met) atLeast(t *testing.T, n int, errors ...api.Errno) {
	t.Helper()
	for _, e := range errors {
		if m[e] < n {
			t.Errorf("error %d was met %d times of all", e, m[e])
		}
	}
}

func TestP5_6ManyRuns(t *testing.T) {
	d := newDice(56)
	var seen met
	for range 30000 {
		o, run, earlier := d.op(), d.run(4), d.r.Intn(2) == 0
		want, f := wantOver(o, earlier, run)
		got, e := xform.Over(o, earlier, run...)
		sameOp(t, got, e, want, f, "P5.6: Over(%v, %v, %v)", o, earlier, run)
		seen[e]++
	}
	seen.atLeast(t, 300, api.OK, api.ErrClash, api.ErrGrow)
}

func TestP5_6NoRunAtAll(t *testing.T) {
	for _, o := range bodies() {
		for _, run := range [][]api.Op{nil, {}} {
			got, e := xform.Over(o, true, run...)
			sameOp(t, got, e, o, api.OK, "P5.6: Over(%v, true) of no run", o)
		}
	}
	got, e := xform.Over(ins(none, end, "x"), true)
	sameOp(t, got, e, api.Op{}, api.ErrGrow, "P5.2: Over of no run, o's own error")
}

func TestP5_7ManyRuns(t *testing.T) {
	d := newDice(57)
	var seen met
	for range 30000 {
		first, later := d.run(3), d.run(3)
		wf, wl, f := wantCross(first, later)
		gf, gl, e := xform.Cross(first, later)
		sameRun(t, gf, e, wf, f, "P5.7: Cross(%v, %v), first", first, later)
		sameRun(t, gl, e, wl, f, "P5.7: Cross(%v, %v), later", first, later)
		seen[e]++
	}
	seen.atLeast(t, 300, api.OK, api.ErrClash, api.ErrGrow)
}

func TestP5_7EmptyRuns(t *testing.T) {
	run := []api.Op{ins(ids[1], 2, "ab"), hide(ids[2], 0, 3), status(ids[3], ids[1], false)}
	for _, empty := range [][]api.Op{nil, {}} {
		f, l, e := xform.Cross(empty, run)
		sameRun(t, f, e, nil, api.OK, "P5.7: Cross(no run, run), first")
		sameRun(t, l, e, run, api.OK, "P5.7: Cross(no run, run), later")
		f, l, e = xform.Cross(run, empty)
		sameRun(t, f, e, run, api.OK, "P5.7: Cross(run, no run), first")
		sameRun(t, l, e, nil, api.OK, "P5.7: Cross(run, no run), later")
		f, l, e = xform.Cross(empty, nil)
		sameRun(t, append(f, l...), e, nil, api.OK, "P5.7: Cross of no runs")
	}
}

// Cross's steps one by one: which error comes first tells which step was first.
func TestP5_7OrderOfTheSteps(t *testing.T) {
	a, b, c := api.ID{1, 1}, api.ID{2, 1}, api.ID{3, 1}
	grows := ins(c, end-1, "z")
	for i, x := range []struct {
		first, later []api.Op
		e            api.Errno
	}{
		// The first of later meets all of first, ahead of the second of later.
		{[]api.Op{ins(b, 0, "x"), ins(a, 0, "y")}, []api.Op{ins(a, 0, "p"), grows}, api.ErrClash},
		{[]api.Op{ins(b, 0, "x"), ins(a, 0, "y")}, []api.Op{grows, ins(a, 0, "p")}, api.ErrGrow},
		{[]api.Op{ins(a, 0, "y"), grows}, []api.Op{ins(b, 0, "p"), ins(a, 0, "q")}, api.ErrGrow},
		{[]api.Op{ins(a, 0, "y"), grows}, []api.Op{ins(a, 0, "p"), ins(b, 0, "q")}, api.ErrClash},
		// l over f is refused for its ranges ahead of f over l for its place.
		{[]api.Op{ins(a, end-1, "y")}, []api.Op{show(b, end-1, end), ins(c, 0, "p")}, api.ErrGrow},
		{[]api.Op{ins(a, 1, "y"), grows}, []api.Op{cover(b, api.Hide, list(teeth(api.MaxRanges)...)...), ins(c, 0, "p")}, api.ErrMany},
		{[]api.Op{grows, ins(a, 1, "y")}, []api.Op{ins(b, 0, "p"), cover(ids[12], api.Hide, list(teeth(api.MaxRanges)...)...)}, api.ErrGrow},
	} {
		f, l, e := xform.Cross(x.first, x.later)
		sameRun(t, append(f, l...), e, nil, x.e, "P5.7: case %d: Cross", i)
	}
}

func TestP5_8ManyRuns(t *testing.T) {
	d := newDice(58)
	var seen met
	for range 30000 {
		run := d.run(4)
		for from := -1; from <= len(run); from++ {
			to := d.r.Intn(len(run)+2) - 1
			want, f := wantBring(run, from, to)
			got, e := xform.Bring(run, from, to)
			sameRun(t, got, e, want, f, "P5.8: Bring(%v, %d, %d)", run, from, to)
			seen[e]++
		}
	}
	seen.atLeast(t, 300, api.OK, api.ErrPlace, api.ErrClash, api.ErrInside, api.ErrGrow)
}

func TestP5_8IndicesBesideTheirBounds(t *testing.T) {
	run := []api.Op{ins(ids[1], 0, "abc"), ins(ids[2], 1, "d"), hide(ids[3], 3, 4)}
	far := []int{math.MinInt, math.MinInt + 1, -1, 0, 2, 3, 4, math.MaxInt - 1, math.MaxInt}
	for _, from := range far {
		for _, to := range far {
			want, f := wantBring(run, from, to)
			got, e := xform.Bring(run, from, to)
			sameRun(t, got, e, want, f, "P5.8: Bring(%v, %d, %d)", run, from, to)
			for _, empty := range [][]api.Op{nil, {}} {
				got, e = xform.Bring(empty, from, to)
				sameRun(t, got, e, nil, api.ErrPlace, "P5.8: Bring(no run, %d, %d)", from, to)
			}
		}
	}
}

// P5.2: an own error anywhere in the runs, ahead of ErrPlace and of what the steps say; of several the first one handed in.
func TestP5_2OwnErrorsOfRuns(t *testing.T) {
	one := api.ID{1, 1}
	clashing := []api.Op{ins(one, 0, "a"), ins(one, 1, "b"), hide(one, 0, 1)}
	wrongs := wrongOps(one)
	put := func(at int, o api.Op) []api.Op {
		out := slices.Clone(clashing)
		out[at] = o
		return out
	}
	for i, w := range wrongs {
		next := wrongs[(i+1)%len(wrongs)]
		for at := range clashing {
			bad := put(at, w.o)
			got, e := xform.Over(clashing[0], true, bad...)
			sameOp(t, got, e, api.Op{}, w.e, "P5.2: Over of a run whose %d is wrong", at)
			got, e = xform.Over(next.o, true, bad...)
			sameOp(t, got, e, api.Op{}, next.e, "P5.2: Over of a wrong o and a run whose %d is wrong", at)
			for _, x := range []struct {
				first, later []api.Op
				e            api.Errno
			}{{bad, clashing, w.e}, {clashing, bad, w.e}, {put(2, next.o), bad, next.e}, {bad, put(0, next.o), w.e}, {bad, nil, w.e}, {nil, bad, w.e}} {
				f, l, e := xform.Cross(x.first, x.later)
				sameRun(t, append(f, l...), e, nil, x.e, "P5.2: Cross of runs whose %d is wrong", at)
			}
			for _, p := range [][2]int{{0, 2}, {1, 1}, {-1, 0}, {0, 3}, {math.MaxInt, math.MinInt}} {
				out, e := xform.Bring(bad, p[0], p[1])
				sameRun(t, out, e, nil, w.e, "P5.2: Bring(a run whose %d is wrong, %d, %d)", at, p[0], p[1])
			}
		}
		out, e := xform.Bring([]api.Op{clashing[0], w.o, next.o}, 9, 9)
		sameRun(t, out, e, nil, w.e, "P5.2: Bring of a run with two that are wrong")
	}
	out, e := xform.Bring(clashing, 0, 3)
	sameRun(t, out, e, nil, api.ErrPlace, "P5.2: ErrPlace ahead of ErrClash")
}
