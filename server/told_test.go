package server_test

import (
	"reflect"
	"slices"
	"testing"

	"redraft/api"
	"redraft/desk"
	"redraft/server"
)

// Log at its bounds and beside them: what is not durable is told too.
func TestP14_6Log(t *testing.T) {
	x := begun(t)
	for lo := -2; lo <= 5; lo++ {
		for hi := -2; hi <= 5; hi++ {
			e := api.ErrPlace
			if 0 <= lo && lo <= hi && hi <= 3 {
				e = api.OK
			}
			if got := x.do(logged(lo, hi)); got.trouble != trouble("Log", lo, e) {
				t.Fatalf("P14.6: Log(%d, %d): %q", lo, hi, got.trouble)
			}
		}
	}
	for _, n := range far {
		for _, m := range append(far, 0, 1, 3) {
			x.do(logged(n, m))
			x.do(logged(m, n))
		}
	}
	if got := x.do(logged(0, 3)).ops; !slices.Equal(got, []string{`1.1 ins 0 "ab"`, `1.2 hide 0-1`, `2.1 ins 0 "c"`}) {
		t.Fatalf("P14.6: %q", got)
	}
	list, err := x.ss[0].Log(2, 1)
	if len(list) != 0 || err == nil {
		t.Fatalf("P14.6: Log(2, 1) = %v, %v", list, err)
	}
	empty := pairAt(t)
	empty.do(logged(0, 0))
	empty.do(logged(0, 1))
}

// Last is 0 of every number that is none of a client's, and of clients that have written nothing.
func TestP14_6Last(t *testing.T) {
	x := begun(t)
	s := x.ss[0]
	if s.Last(1) != 2 || s.Last(2) != 1 || s.Last(3) != 0 {
		t.Fatalf("P14.6: Last %d, %d, %d", s.Last(1), s.Last(2), s.Last(3))
	}
	for _, c := range append([]int{0, -1, 4, 8, 9, 10, 100}, far...) {
		if s.Last(c) != 0 {
			t.Fatalf("P14.6: Last(%d) = %d", c, s.Last(c))
		}
	}
}

// viewed: everything that the promoted calls tell.
type viewed struct {
	text         string
	shown, total int
	runs         []api.Run
	entries      []api.Entry
	ops          []string
	found        []int
	erased       [][]string
	troubles     []string
}

func view(t *testing.T, r *desk.Replica) viewed {
	v := viewed{text: r.Text(), shown: r.Shown(), total: r.Total(), runs: r.Runs()}
	for i := -1; i <= r.Len(); i++ {
		e, err := r.Entry(i)
		v.entries, v.troubles = append(v.entries, e), append(v.troubles, troubleOf(t, err))
		o, err := r.Ops(i, r.Len())
		v.ops, v.troubles = append(v.ops, lines(o)...), append(v.troubles, troubleOf(t, err))
	}
	for c := range 4 {
		for n := range 4 {
			id := api.ID{c, n}
			i, err := r.Find(id)
			v.found, v.troubles = append(v.found, i), append(v.troubles, troubleOf(t, err))
			o, err := r.Erase(id)
			v.erased, v.troubles = append(v.erased, lines(o)), append(v.troubles, troubleOf(t, err))
		}
	}
	return v
}

// sameView: the server's promoted calls answer as a view of its durable commands does.
func sameView(t *testing.T, s *server.Server) {
	t.Helper()
	list, err := s.Log(0, s.Durable())
	must(t, err)
	if got, want := view(t, &s.Replica), view(t, viewOf(t, list)); !reflect.DeepEqual(got, want) {
		t.Fatalf("P14.6: the view tells %+v, want %+v", got, want)
	}
	if s.Len() != s.Durable() || s.Text() != s.Replica.Text() {
		t.Fatalf("P14.6: Len %d, Durable %d", s.Len(), s.Durable())
	}
}

// The promoted calls, on the way and of a stopped server.
func TestP14_6View(t *testing.T) {
	x := pairAt(t)
	for _, s := range []step{
		handle(sub(1, 0, `1.1 ins 0 "abc"`)), handle(sub(2, 0, `2.1 ins 0 "d"`)), tick(),
		handle(sub(2, 2, `2.2 hide 1-3`)), handle(sub(3, 1, `3.1 ins 1 "x"`)), tick(),
		handle(sub(1, 3, `1.2 off 2.2`)), tick(), handle(sub(1, 5, `1.3 off 3.1`)), arm(1, 99), tick(),
	} {
		x.do(s)
		sameView(t, x.ss[0])
	}
	x.holds(6, 5, "axbcd")
	x.all(up(), booted())
	sameView(t, x.ss[1])
	x.holds(6, 6, "abcd")
	x.holds(6, 6, x.ss[1].Text())
	isAt(t, x.ss[0], 6, 5, "axbcd")
}

// Of a stopped server all is told as it was: stopped in a Submit, and in a Tick.
func TestP14_6Stopped(t *testing.T) {
	for _, last := range []step{handle(sub(3, 2, `3.1 ins 0 "x"`)), tick()} {
		x := begun(t)
		x.all(handle(hello(3, 1)), arm(1, 5))
		before := view(t, &x.ss[0].Replica)
		x.is(last, api.ErrStopped)
		x.holds(3, 2, "b")
		x.knows(1, 2, 3)
		if got := view(t, &x.ss[0].Replica); !reflect.DeepEqual(got, before) {
			t.Fatalf("P14.6: the view of a stopped server tells %+v, want %+v", got, before)
		}
		x.all(logged(0, 3), logged(0, 4), logged(3, 3))
		x.all(up(), booted())
		x.is(handle(hello(2, 0)).on(1), api.OK)
		x.is(tick(), api.ErrStopped)
	}
}
