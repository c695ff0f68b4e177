package world_test

import (
	"math/rand"
	"slices"
	"testing"

	"redraft/api"
	"redraft/world"
)

// settles: the fair tail of a world, which must take so many rounds, and a second one, which takes none.
func (x *pair) settles(rounds int) {
	x.t.Helper()
	x.is(settle(), says(rounds, 0, ""))
	x.is(settle(), ok)
	x.oneText()
}

// oneText: P6 and P8 of a world that has settled.
func (x *pair) oneText() {
	x.t.Helper()
	views := x.w.Views()
	for _, v := range views {
		if v.Up && (v.Text != views[0].Text || v.Known != views[0].Known || v.Pending > 0) {
			x.t.Fatalf("P8: %s: %+v, the server %+v", x.script(), v, views[0])
		}
	}
}

// P17.4: tails of a fixed length, and what a round is.
func TestP17_4Rounds(t *testing.T) {
	x := newPair(t, room)
	x.settles(0) // nobody has joined
	x.do(join(1))
	x.settles(0) // nothing has happened: no round, so no tick
	if len(x.w.Flights()) > 0 {
		t.Fatalf("P17.4: Flights %s", flightTexts(x.w.Flights()))
	}
	x.do(ins(1, 0, "a"))
	x.settles(3) // it is sent, written and acked, received
	x.do(join(2))
	x.settles(3) // it asks, is told, has received
	x.all(ins(1, 0, "b"), ins(1, 0, "c"), ins(2, 0, "d"))
	x.settles(5)
	x.shows(0, "cbda", 0) // d was made ahead of a, as b was, and is later than b in the order
}

// What is in flight when all is settled stays there; a Settle that finds it so delivers nothing.
func TestP17_4StaysInFlight(t *testing.T) {
	x := first(t)
	x.do(deliver(3))
	x.all(tick(1), tick(2), tick(1), tick(2), tick(1), tick(2), tick(1), tick(2), tick(1), tick(2))
	flying := flightTexts(x.w.Flights())
	if len(x.w.Flights()) != 2 {
		t.Fatalf("two Hellos are under way: %s", flying)
	}
	x.settles(0)
	if got := flightTexts(x.w.Flights()); got != flying {
		t.Fatalf("P17.4: Flights %s, were %s", got, flying)
	}
}

// Settle disarms the disk of a server that runs, and boots one that is down, whether or not there is anything else to do.
func TestP17_4Disk(t *testing.T) {
	x := pairAt(t, ins(1, 0, "a"), arm(1, 0))
	x.settles(3)
	x.all(arm(2, 0), ins(1, 0, "b"), tick(1))
	x.settles(2)
	x.all(arm(1, 0), ins(1, 0, "c"), tick(1))
	x.is(deliver(lastSubmit(x)), comes(api.ErrStopped, 0, 1))
	if a := x.do(settle()); a.Code != api.OK || !x.w.Views()[0].Up {
		t.Fatalf("P17.4: %+v, %+v", a, x.w.Views()[0])
	}
	x.oneText()
	x.shows(1, "cba", 1)
	// A server that stopped at a Sync whose bytes all stayed: behind the boot all is there, and told.
	y := pairAt(t, ins(1, 0, "a"), tick(1), deliver(0), arm(1, 99))
	y.is(tick(0), fails(api.ErrStopped))
	y.do(settle())
	y.shows(1, "a", 1)
	y.is(boot(0, 0), fails(api.ErrUp))
}

// Bound: nine, and two for each command of the client that has most of them pending.
func TestP17_4Bound(t *testing.T) {
	x := newPair(t, room)
	bounds := func(want int) {
		t.Helper()
		if got := x.w.Bound(); got != want {
			t.Fatalf("P17.4: %s: Bound %d, want %d", x.script(), got, want)
		}
	}
	bounds(9)
	x.all(join(1), join(2))
	bounds(9)
	x.do(ins(1, 0, "a"))
	bounds(11)
	x.do(ins(2, 0, "b"))
	bounds(11)
	x.all(ins(2, 0, "c"), undo(2), del(2, 0, 1))
	bounds(17)
	x.all(ins(2, 9, "c"), undo(1), move(1, 0))
	bounds(17)
	x.do(settle())
	bounds(9)
}

// tail: a world as the longest tails come from: client 1 has a command pending of which it was not told, behind another's that comes late or not, and ahead of one of which it was not told either; with ticks of client 1 between, and any of the four packets that tell the two last ones lost.
func tail(t *testing.T, before, after, lost int, late, crash bool) *pair {
	t.Helper()
	x := newPair(t, room)
	run := func(steps ...api.Step) {
		t.Helper()
		for _, s := range steps {
			if a := x.try(s); a.Code != api.OK {
				t.Fatalf("%s: %+v", x.script(), a)
			}
		}
	}
	flying := func() int { return x.p.net[len(x.p.net)-1].Number }
	run(join(1), join(2), tick(1), tick(2), deliver(0), deliver(1), ins(2, 0, "a"), tick(2), deliver(2), tick(0), deliver(4), ins(1, 0, "b"), tick(1))
	run(deliver(flying()), ins(2, 1, "c"), tick(2))
	run(deliver(flying()))
	for range before {
		x.try(tick(1))
	}
	ahead := x.p.next
	run(tick(0)) // revisions 2 and 3
	for i := range 4 {
		if lost>>i&1 == 1 {
			run(drop(ahead + i))
		}
	}
	for range after {
		x.try(tick(1))
	}
	if late {
		run(deliver(3))
	}
	if crash {
		x.try(ins(2, 0, "d"))
		x.try(tick(2))
		x.try(arm(1, 30))
		for _, f := range x.w.Flights() {
			if f.Packet.To == 0 {
				x.try(deliver(f.Number))
			}
		}
	}
	return x
}

// P17.4, P8: tails from many states, among them the longest that there is: just as long as Bound says.
func TestP17_4Longest(t *testing.T) {
	longest := map[int]int{}
	for n := range 7 * 7 * 16 * 2 * 2 {
		x := tail(t, n%7, n/7%7, n/49%16, n/784%2 == 1, n/1568 == 1)
		bound := x.w.Bound()
		a := x.try(settle())
		if a.Code != api.OK || a.N > bound {
			t.Fatalf("P17.4: %s: %+v, Bound %d", x.script(), a, bound)
		}
		x.see()
		x.oneText()
		longest[bound] = max(longest[bound], a.N)
	}
	if longest[11] != 11 {
		t.Errorf("P17.4: the longest tails by Bound: %v; one of 11 rounds is known", longest)
	}
}

// The longest tail by itself, as Settle answers it: one round less would not do.
func TestP17_4LongestOne(t *testing.T) {
	x := tail(t, 0, 1, 15, true, false)
	n, e := x.w.Settle()
	if n != 11 || e != api.OK {
		t.Fatalf("P17.4: Settle = %d, %d, want 11 rounds", n, int(e))
	}
	if n, e := x.w.Settle(); n != 0 || e != api.OK {
		t.Fatalf("P17.4: a second Settle = %d, %d", n, int(e))
	}
	for _, v := range x.w.Views() {
		if v.Known != 3 || v.Pending > 0 || v.Text != x.w.Views()[0].Text {
			t.Fatalf("P8: %+v", v)
		}
	}
}

// P8: much is pending everywhere, and all that was ever sent is lost: two rounds for each command, and few more.
func TestP8AllLost(t *testing.T) {
	lim := api.Limits{Clients: 3, Cells: 99, Ops: 40}
	x := newPair(t, lim)
	x.all(joins(lim)...)
	r := rand.New(rand.NewSource(8))
	for range 20 {
		for c := 1; c <= 3; c++ {
			x.try(ins(c, r.Intn(len(x.w.Views()[c].Text)+1), "k"))
			x.try(tick(c))
		}
		for _, f := range x.w.Flights() {
			x.try(drop(f.Number))
		}
	}
	if x.w.Bound() != 49 {
		t.Fatalf("P17.4: Bound %d", x.w.Bound())
	}
	if a := x.do(settle()); a.Code != api.OK || a.N > 49 || a.N < 40 {
		t.Fatalf("P8: %+v", a)
	}
	x.oneText()
	if n := len(x.w.Order()); n != 60 {
		t.Fatalf("P8: %d commands", n)
	}
}

// P8: the fair tail in the midst of every kind of weather, from any state: within Bound, and then one text.
func TestP8AnyState(t *testing.T) {
	for seed := range int64(150) {
		r := rand.New(rand.NewSource(8800 + seed))
		x := randomPair(t, r)
		for range 12 {
			w := weathers[r.Intn(len(weathers))]
			for range r.Intn(25) {
				x.try(randomStep(r, x.p, w))
			}
			bound := x.w.Bound()
			n, e := x.w.Settle()
			m, f := x.p.settle()
			if n != m || e != f || e != api.OK || n > bound {
				t.Fatalf("P17.4: %s: Settle = %d, %d, want %d, %d; Bound %d", x.script(), n, int(e), m, int(f), bound)
			}
			x.steps = append(x.steps, settle())
			x.see()
			x.oneText()
			x.is(settle(), ok)
		}
	}
}

// A client that joins late, and those that never do: the tail waits for who has joined alone.
func TestP8LateAndNever(t *testing.T) {
	lim := api.Limits{Clients: 8, Cells: 9, Ops: 9}
	x := newPair(t, lim)
	x.all(join(3), join(7), ins(3, 0, "three"), ins(7, 0, "seven"))
	x.settles(3)
	x.do(join(8))
	x.settles(3)
	views := x.w.Views()
	for n, v := range views {
		up := slices.Contains([]int{0, 3, 7, 8}, n)
		if v.Up != up || up && v.Text != "threeseven" || !up && v != (api.View{Node: n}) {
			t.Fatalf("P17.2: %+v", v)
		}
	}
}

// Worlds have nothing to do with one another, and the same steps give the same.
func TestSame(t *testing.T) {
	r := rand.New(rand.NewSource(99))
	x := randomPair(t, r)
	for range 300 {
		x.try(randomStep(r, x.p, weathers[0]))
	}
	x.see()
	again, other := made(t, x.p.lim), made(t, x.p.lim)
	for i, s := range x.steps {
		again.Play(s)
		if i%2 == 0 {
			other.Play(s)
		}
	}
	for _, w := range []*world.World{again, x.w} {
		x.w = w
		x.see()
	}
}
