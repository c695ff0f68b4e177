package world_test

import (
	"slices"
	"testing"

	"redraft/api"
	"redraft/world"
)

// someLimits: with each number at its bounds and beside them.
func someLimits() []api.Limits {
	var out []api.Limits
	numbers := func(most int) []int { return append([]int{-1, 0, 1, 2, most - 1, most, most + 1}, far...) }
	for _, n := range numbers(8) {
		out = append(out, api.Limits{Clients: n, Cells: 5, Ops: 5})
	}
	for _, n := range numbers(4096) {
		out = append(out, api.Limits{Clients: 3, Cells: n, Ops: 5})
	}
	for _, n := range numbers(1024) {
		out = append(out, api.Limits{Clients: 3, Cells: 5, Ops: n})
	}
	return append(out, api.Limits{}, api.Limits{Clients: 1, Cells: 1, Ops: 1}, api.Limits{Clients: 8, Cells: 4096, Ops: 1024}, api.Limits{Clients: 9, Cells: 4097, Ops: 1025})
}

func isRoom(lim api.Limits) bool {
	return slices.Contains([]int{1, 2, 3, 7, 8}, lim.Clients) && 0 < lim.Cells && lim.Cells < 4097 && 0 < lim.Ops && lim.Ops < 1025
}

// P17.1: New, Open and Run take the limits of a room and no others.
func TestP17_1Limits(t *testing.T) {
	wrong := []api.File{{Name: "NO NAME"}}
	for _, lim := range someLimits() {
		want := api.OK
		if !isRoom(lim) {
			want = api.ErrLimits
		}
		w, e := world.New(lim)
		if e != want || (w != nil) != (want == api.OK) {
			t.Fatalf("P17.1: New(%v) = %v, %d, want %d", lim, w != nil, int(e), int(want))
		}
		o, f := world.Open(lim, nil)
		if f != want || (o != nil) != (want == api.OK) {
			t.Fatalf("P17.1: Open(%v) = %v, %d, want %d", lim, o != nil, int(f), int(want))
		}
		answers, views, g := world.Run(lim, []api.Step{join(1)})
		if g != want || len(answers) != map[api.Errno]int{api.OK: 1}[want] || want != api.OK && len(views) > 0 {
			t.Fatalf("P17.1: Run(%v) = %v, %v, %d, want %d", lim, answers, views, int(g), int(want))
		}
		if want != api.OK { // two errors at once
			_, e := world.Open(lim, wrong)
			answers, views, f := world.Run(lim, make([]api.Step, api.MaxSteps+1))
			if e != want || f != want || len(answers) > 0 || len(views) > 0 {
				t.Fatalf("P17.1: %v: Open %d, Run %d, want %d", lim, int(e), int(f), int(want))
			}
			continue
		}
		if len(views) != lim.Clients+1 {
			t.Fatalf("P17.1: Run(%v) has %d views", lim, len(views))
		}
		isEmpty(t, w, lim)
		isEmpty(t, o, lim)
	}
}

// isEmpty: a world in which nothing has happened.
func isEmpty(t *testing.T, w *world.World, lim api.Limits) {
	t.Helper()
	views := w.Views()
	for n, v := range views {
		if v != (api.View{Node: n, Up: n == 0}) {
			t.Fatalf("P17.1: view %d of a new world is %+v", n, v)
		}
	}
	ops, e := w.Ops(0)
	if len(views) != lim.Clients+1 || len(ops) > 0 || e != api.OK || len(w.Order()) > 0 || len(w.Flights()) > 0 || len(w.Files()) > 0 || w.Bound() != 9 {
		t.Fatalf("P17.1: a new world: %v, %v, %v, %v, %v, %d", views, ops, w.Order(), w.Flights(), w.Files(), w.Bound())
	}
	if n, e := w.Settle(); n != 0 || e != api.OK {
		t.Fatalf("P17.4: Settle of a new world: %d, %d", n, int(e))
	}
}

// The limits are a client's own: each may make all its cells and commands, and no more.
func TestLimitsOfClients(t *testing.T) {
	x := newPair(t, api.Limits{Clients: 2, Cells: 3, Ops: 3})
	x.all(join(1), join(2))
	for c := 1; c <= 2; c++ {
		x.is(ins(c, 0, "abc"), says(1, 3, []string{"", `1.1 ins 0 "abc"`, `2.1 ins 0 "abc"`}[c]))
		x.is(ins(c, 0, "d"), fails(api.ErrCells))
		x.is(undo(c), says(2, 0, []string{"", "1.2 off 1.1", "2.2 off 2.1"}[c]))
		x.is(ins(c, 0, "d"), fails(api.ErrCells))
		x.is(redo(c), says(3, 3, []string{"", "1.3 on 1.1", "2.3 on 2.1"}[c]))
		for _, s := range []api.Step{ins(c, 0, "d"), del(c, 0, 1), undo(c), redo(c), off(c, c, 1), on(c, c, 1), off(c, 7, 7)} {
			x.is(s, fails(api.ErrOps))
		}
		x.is(move(c, 0), ok)
	}
	x.do(settle())
	x.shows(0, "abcabc", 0)
	if n := len(x.w.Order()); n != 6 {
		t.Fatalf("%d commands", n)
	}
}

// The greatest room: all eight type, and see it.
func TestGreatestRoom(t *testing.T) {
	lim := api.Limits{Clients: 8, Cells: 4096, Ops: 1024}
	x := newPair(t, lim)
	x.all(joins(lim)...)
	for c := 1; c <= 8; c++ {
		x.do(ins(c, 0, string(rune('a'+c))))
	}
	x.is(ins(9, 0, "x"), fails(api.ErrNode))
	x.do(settle())
	for _, v := range x.w.Views() {
		if v.Text != "bcdefghi" || v.Known != 8 || !v.Up {
			t.Fatalf("P6: %+v", v)
		}
	}
}

// Run: MaxSteps steps are played, one more is refused; of none only the views are told.
func TestP17_1RunSteps(t *testing.T) {
	lim := api.Limits{Clients: 1, Cells: 9, Ops: 9}
	steps := make([]api.Step, api.MaxSteps+1)
	for i := range steps {
		steps[i] = view(0)
	}
	steps[0], steps[1], steps[2], steps[3] = join(1), ins(1, 0, "ab"), ins(1, 7, "c"), settle()
	steps[api.MaxSteps-1], steps[api.MaxSteps] = del(1, 0, 1), del(1, 0, 1)
	answers, views, e := world.Run(lim, steps)
	if len(answers) > 0 || len(views) > 0 || e != api.ErrSteps {
		t.Fatalf("P17.1: Run of %d steps: %d answers, %d views, %d", len(steps), len(answers), len(views), int(e))
	}
	answers, views, e = world.Run(lim, steps[:api.MaxSteps])
	if len(answers) != 16384 || e != api.OK || !slices.Equal(views, []api.View{{Node: 0, Up: true, Text: "ab", Known: 1}, {Node: 1, Up: true, Text: "b", Known: 1, Pending: 1}}) {
		t.Fatalf("P17.1: Run of %d steps: %d answers, %v, %d", api.MaxSteps, len(answers), views, int(e))
	}
	for i, a := range answers {
		want := says(0, 1, "ab")
		if k := slices.Index([]int{0, 1, 2, 3, api.MaxSteps - 1}, i); k >= 0 {
			want = []api.Answer{ok, says(1, 2, `1.1 ins 0 "ab"`), fails(api.ErrPlace), says(3, 0, ""), says(2, 0, "1.2 hide 0-1")}[k]
		}
		if a != want {
			t.Fatalf("P17.1: answer %d of Run: %+v, want %+v", i, a, want)
		}
	}
	for _, none := range [][]api.Step{nil, {}} {
		answers, views, e = world.Run(lim, none)
		if len(answers) > 0 || e != api.OK || !slices.Equal(views, []api.View{{Node: 0, Up: true}, {Node: 1}}) {
			t.Fatalf("P17.1: Run of no steps: %v, %v, %d", answers, views, int(e))
		}
	}
}

// Run is New and Play, one step behind the other, and worlds have nothing to do with one another.
func TestP17_1RunIsPlay(t *testing.T) {
	x := first(t)
	x.all(arm(2, 20), del(2, 0, 1), tick(2), deliver(5), undo(1), tick(0), view(0), boot(1, 0), boot(0, 0), view(2))
	want := []api.Answer{}
	other := made(t, room)
	for _, s := range x.steps {
		want = append(want, other.Play(s))
	}
	for range 2 {
		answers, views, e := world.Run(room, x.steps)
		if e != api.OK || !slices.Equal(answers, want) || !slices.Equal(views, x.w.Views()) || !slices.Equal(views, other.Views()) {
			t.Fatalf("P17.1: Run = %v, %v, %d, want %v, %v", answers, views, int(e), want, x.w.Views())
		}
	}
	isEmpty(t, made(t, room), room)
}
