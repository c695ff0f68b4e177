package history_test

import (
	"math/rand"
	"slices"
	"testing"

	"redraft/api"
)

// needs: the commands without which this one can't be made: whose cells it covers or stands ahead of, and its target.
func (m meant) needs() []api.ID {
	var out []api.ID
	for _, c := range append([]cell{m.ahead}, m.cover...) {
		if c != (cell{}) {
			out = append(out, c.id)
		}
	}
	if m.Kind == api.Status {
		out = append(out, m.Target)
	}
	return out
}

// turns: all turns in which the commands of an order can be put in, each as the numbers that they have in it.
func (w order) turns() [][]int {
	var out [][]int
	var grow func(turn []int)
	grow = func(turn []int) {
		if len(turn) == len(w) {
			out = append(out, slices.Clone(turn))
		}
		for k, m := range w {
			there := func(id api.ID) bool { return slices.Contains(turn, w.find(id)) }
			if !slices.Contains(turn, k) && !slices.ContainsFunc(m.needs(), func(id api.ID) bool { return !there(id) }) {
				grow(append(slices.Clone(turn), k))
			}
		}
	}
	grow(nil)
	return out
}

// putInTurn: the commands in that turn, each where it belongs among those that are there, as it would have been made there.
func putInTurn(t *testing.T, w order, turn []int) *pair {
	t.Helper()
	p := newPair()
	var there []int
	for _, k := range turn {
		i, _ := slices.BinarySearch(there, k)
		there = slices.Insert(there, i, k)
		p.put(t, i, w[k].form(p.w.row(i)))
	}
	return p
}

// allTurns: P6.12 of an order.
func allTurns(t *testing.T, w order) {
	t.Helper()
	var first *pair
	for _, turn := range w.turns() {
		p := putInTurn(t, w, turn)
		agree(t, p.h, w)
		if first == nil {
			first = p
			p.holds(t)
		}
		if got, want := p.r.Runs(), first.r.Runs(); !slices.Equal(got, want) {
			t.Error(cut("P6.12: %v, put in in the turn %v, makes %v, else %v", w.ops(), turn, got, want))
		}
		if t.Failed() {
			t.Fatal(cut("P6.12: the turn was %v", turn))
		}
	}
}

// choices: all commands of that id that can be made behind an order: inserts of one and two runes, Hides of each set of cells, Status commands on each edit.
func (w order) choices(id api.ID, text string) []api.Op {
	var out []api.Op
	n := len(w.row(len(w)))
	for at := range n + 1 {
		out = append(out, ins(id[0], id[1], at, text[:1]), ins(id[0], id[1], at, text))
	}
	for bits := 1; bits < 1<<n; bits++ {
		var at []int
		for q := range n {
			if bits>>q&1 == 1 {
				at = append(at, q)
			}
		}
		o := hide(id[0], id[1])
		o.Ranges = rangesOf(at)
		out = append(out, o)
	}
	for _, m := range w {
		if m.Kind != api.Status {
			out = append(out, status(id[0], id[1], m.ID, false), status(id[0], id[1], m.ID, true))
		}
	}
	return out
}

// Every order of three commands that begins with an insert, and some of four, in all their turns.
func TestP6_12SmallOrders(t *testing.T) {
	w := order(nil).with(0, ins(1, 1, 0, "ab"))
	count := 0
	for _, second := range w.choices(api.ID{2, 1}, "cd") {
		two := w.with(1, second)
		for _, third := range two.choices(api.ID{1, 2}, "ef") {
			three := two.with(2, third)
			allTurns(t, three)
			for _, fourth := range three.choices(api.ID{3, 1}, "gh") {
				if count++; count%3 == 0 {
					allTurns(t, three.with(3, fourth))
				}
			}
		}
	}
}

// Status commands of all kinds on one edit, and on two, in all turns.
func TestP6_12Statuses(t *testing.T) {
	for bits := range 1 << 6 {
		w := order(nil).with(0, ins(1, 1, 0, "a")).with(1, hide(1, 2, 0, 1))
		for k := range 3 {
			w = w.with(2+k, status(2, k+1, api.ID{1, 1 + bits>>k&1}, bits>>(k+3)&1 == 1))
		}
		allTurns(t, w)
	}
}

// Longer orders, each in some of its turns.
func TestP6_12LongerOrders(t *testing.T) {
	r := rand.New(rand.NewSource(612))
	for range 60 {
		p := newPair()
		for len(p.w) < 14 {
			_, o := p.randomPut(r)
			p.put(t, len(p.w), o)
		}
		for range 6 {
			q := putInTurn(t, p.w, p.w.randomTurn(r))
			agree(t, q.h, p.w)
			if !slices.Equal(q.r.Runs(), p.r.Runs()) {
				t.Error(cut("P6.12: %v makes %v or %v", p.w.ops(), q.r.Runs(), p.r.Runs()))
			}
		}
		if t.Failed() {
			return
		}
	}
}

// randomTurn: one of the turns of an order that has too many of them.
func (w order) randomTurn(r *rand.Rand) []int {
	var turn []int
	for len(turn) < len(w) {
		k := r.Intn(len(w))
		lacks := slices.ContainsFunc(w[k].needs(), func(id api.ID) bool { return !slices.Contains(turn, w.find(id)) })
		if !slices.Contains(turn, k) && !lacks {
			turn = append(turn, k)
		}
	}
	return turn
}
