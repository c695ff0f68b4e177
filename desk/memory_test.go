package desk_test

import (
	"fmt"
	"slices"
	"testing"
	"unsafe"

	"redraft/api"
	"redraft/desk"
	"redraft/op"
)

// over: a list is written over, spare room too.
func over[T any](list []T, with T) {
	all := list[:cap(list)]
	for i := range all {
		all[i] = with
	}
}

func overRanges(list []api.Range) { over(list, api.Range{Lo: -7, Hi: -8}) }

func overRun(run []api.Op) {
	for _, o := range run {
		overRanges(o.Ranges)
	}
	over(run, api.Op{At: -9, Text: "?"})
}

// roomy: an operation whose ranges have spare room behind them, with something in it.
func roomy(o api.Op) api.Op {
	o.Ranges = append(slices.Clone(o.Ranges), list(90, 91, 92, 93)...)[:len(o.Ranges)]
	return o
}

// handedIn: calls f with the operation in memory that has spare room; nothing there may be changed. Behind the call all of it is written over.
func handedIn(t *testing.T, o api.Op, f func(api.Op)) {
	t.Helper()
	o = roomy(o)
	was := slices.Clone(o.Ranges[:cap(o.Ranges)])
	f(o)
	if !slices.Equal(o.Ranges[:cap(o.Ranges)], was) {
		t.Errorf("rule 11: what was handed in has been changed: %v", o)
	}
	overRanges(o.Ranges)
}

// mixed: commands of all kinds, at all places of an order.
func mixed() []struct {
	i int
	o api.Op
} {
	return []struct {
		i int
		o api.Op
	}{
		{0, ins(1, 1, 0, "abcdef")}, {1, hide(1, 2, 0, 2, 3, 5)}, {2, ins(2, 1, 1, "xy")}, {1, hide(2, 2, 1, 3, 5, 6)}, {4, status(2, 3, api.ID{1, 2}, false)},
		{1, ins(3, 1, 4, "pq")}, {6, status(3, 2, api.ID{1, 1}, false)}, {2, hide(3, 3, 0, 1, 2, 3)}, {8, status(3, 4, api.ID{1, 1}, true)},
	}
}

// overView: all that a view hands out is written over.
func overView(t *testing.T, r *desk.Replica) {
	t.Helper()
	over(r.Runs(), api.Run{Text: "?", Hid: -1})
	for i := range r.Len() {
		x, _ := r.Entry(i)
		overRanges(x.Ranges)
		for _, run := range [][]api.Op{first(r.Erase(x.ID)), first(r.Ops(i, r.Len())), first(r.Ops(0, i))} {
			apart(t, run)
			overRun(run)
		}
	}
}

func first(run []api.Op, _ error) []api.Op { return run }

// apart: does each operation of an answer stand when the ranges of every other one have been written over?
func apart(t *testing.T, run []api.Op) {
	t.Helper()
	for i, o := range run {
		was := op.Clone(o)
		for j, other := range run {
			if i == j {
				continue
			}
			kept := slices.Clone(other.Ranges[:cap(other.Ranges)])
			overRanges(other.Ranges)
			if !op.Equal(o, was) {
				t.Errorf("rule 11: two operations of one answer share memory: %v, %v", i, j)
			}
			copy(other.Ranges[:cap(other.Ranges)], kept)
		}
	}
}

func TestReplicaMemory(t *testing.T) {
	v := newView(t)
	for _, c := range mixed() {
		next := v.w.with(c.i, meaning(v.w.row(c.i), c.o))
		want := v.w.effect(next, c.i)
		v.w = next
		var got api.Op
		handedIn(t, c.o, func(o api.Op) {
			var err error
			if got, err = v.r.Put(c.i, o); err != nil {
				t.Fatal(err)
			}
		})
		made(t, "rule 11: the effect, behind a change of what was handed in", got, want)
		overRanges(got.Ranges)
		agree(t, v.r, v.w, "rule 11: Put")
		overView(t, v.r)
		agree(t, v.r, v.w, "rule 11: what a view hands out")
	}
}

// busy: calls of all kinds, with all that they answer written over.
func busy(t *testing.T, s *seat, after func()) {
	t.Helper()
	step := func(o api.Op, e api.Errno) {
		t.Helper()
		if e != api.OK {
			t.Fatalf("refused with %d", e)
		}
		overRanges(o.Ranges)
		after()
	}
	take := func(o api.Op) {
		t.Helper()
		handedIn(t, o, func(o api.Op) { step(api.Op{}, s.take(o)) })
		after() // once more: now what was handed in is written over
	}
	step(s.insert(0, "abcdef"))
	step(s.delete(1, 2))
	step(s.delete(0, 2))
	step(s.insert(1, "XY"))
	take(ins(2, 1, 0, "other"))
	take(hide(2, 2, 1, 2, 3, 4))
	step(s.undo())
	step(s.undo())
	step(api.Op{}, s.confirm(api.ID{1, 1}))
	take(hide(2, 3, 0, 2, 4, 7, 8, 9))
	take(ins(2, 4, 6, "mid"))
	step(s.redo())
	step(s.delete(0, s.d.Shown()))
	step(s.turn(api.ID{2, 3}, false))
	take(status(2, 5, api.ID{1, 1}, false))
}

func TestDeskMemory(t *testing.T) {
	s := sit(t, 1, room(2, 99, 99))
	busy(t, s, func() {
		t.Helper()
		s.is("rule 11: handed in")
		overRun(s.d.Pending())
		apart(t, s.d.Pending())
		undo, redo := s.d.Stacks()
		wantU, wantR := slices.Clone(undo), slices.Clone(redo)
		over(undo, api.ID{-7, -8})
		if !slices.Equal(redo, wantR) {
			t.Errorf("rule 11: the two stacks share memory")
		}
		undo, redo = s.d.Stacks()
		over(redo, api.ID{-7, -8})
		if !slices.Equal(undo, wantU) {
			t.Errorf("rule 11: the two stacks share memory")
		}
		overView(t, &s.d.Replica)
		s.is("rule 11: handed out")
	})
}

// What a call has answered stays as it was when the desk goes on.
func TestAnswersStay(t *testing.T) {
	s := sit(t, 1, room(2, 99, 99))
	var kept []func() string
	var was []string
	keep := func(f func() string) {
		kept = append(kept, f)
		was = append(was, f())
	}
	s.insert(0, "abcdef")
	o, _ := s.delete(1, 2)
	keep(func() string { return fmt.Sprint(o) })
	busyEnough := func() {
		p, runs := s.d.Pending(), s.d.Runs()
		undo, redo := s.d.Stacks()
		x, _ := s.d.Entry(1)
		left, _ := s.d.Erase(api.ID{1, 2})
		keep(func() string { return fmt.Sprint(p, runs, undo, redo, x, left) })
	}
	busyEnough()
	for n := 1; n < 6; n++ {
		s.take(ins(2, n, n-1, "new"))
		busyEnough()
		s.undo()
		s.insert(n, "own")
		busyEnough()
		s.undo()
	}
	for i, f := range kept {
		if f() != was[i] {
			t.Errorf("rule 11: an answer was %s, is %s", was[i], f())
		}
	}
	s.is("rule 11: answers stay")
}

// Texts are memory too: a text that is cut out of a great one doesn't hold it.
func TestTexts(t *testing.T) {
	text := string([]byte{'a', 'b', 'c'})
	d, _ := desk.New(1, room(2, 99, 99))
	o, _ := d.Insert(0, text)
	d.Take(ins(2, 1, 0, text))
	x, _ := desk.NewReplica().Put(0, ins(1, 1, 0, text))
	run, _ := d.Ops(0, 2)
	seen := map[*byte]bool{unsafe.StringData(text): true}
	for i, o := range slices.Concat([]api.Op{o, x}, run, d.Pending()) {
		if at := unsafe.StringData(o.Text); seen[at] || o.Text != text {
			t.Errorf("rule 11: answer %d shares its text: %v", i, o)
		} else {
			seen[at] = true
		}
	}
}

// Desks and Replicas share nothing: what comes into one is not seen in another that got what the first one handed out.
func TestApart(t *testing.T) {
	a, b := sit(t, 1, room(2, 99, 99)), sit(t, 2, room(2, 99, 99))
	a.insert(0, "abc")
	a.delete(0, 1)
	for _, o := range a.d.Pending() {
		b.take(o)
	}
	run, _ := a.d.Ops(0, 2)
	r := replayed(t, run)
	w := a.m.order
	a.insert(1, "x")
	a.undo()
	a.undo()
	b.insert(0, "yz")
	agree(t, r, w, "a Replica beside its desk")
	a.is("a desk beside another")
	b.is("a desk beside another")
}

// DOC.md, rule 13: nil and a list without elements are one and the same.
func TestRule13(t *testing.T) {
	empty := func(o api.Op) api.Op {
		o.Ranges = []api.Range{}
		return o
	}
	s := sit(t, 1, room(2, 99, 99))
	s.take(empty(ins(2, 1, 0, "abc")))
	s.take(empty(status(2, 2, api.ID{2, 1}, false)))
	allRefusedByPut(t, s, api.ErrNone, empty(hide(2, 3)), hide(2, 3))
	s.is("rule 13")
}
