package client_test

import (
	"testing"

	"redraft/api"
	"redraft/client"
	"redraft/desk"
)

// begins: P15.2's new client, whoever it is.
func begins(t *testing.T, user int, lim api.Limits) {
	t.Helper()
	x := pairOf(t, user, lim)
	x.see()
	x.shows("", 0)
	x.holds()
	x.waits(-1, 4)
	if x.c.User() != user || x.c.Gap() != 0 || x.c.Total() != 0 {
		t.Fatalf("P15.2: user %d, gap %d, %d cells", x.c.User(), x.c.Gap(), x.c.Total())
	}
	x.sends("H0")
}

// Every user, limits at their bounds and beside them, far away too: desk.New's errors, in its order.
func TestP15_2New(t *testing.T) {
	bounds := func(high int) []int { return append([]int{-1, 0, 1, 2, high - 1, high, high + 1}, far...) }
	users := append([]int{-1, 0, 1, 2, 3, 4, 5, 6, 7, 8, 9}, far...)
	good := 0
	for _, clients := range bounds(8) {
		for _, cells := range bounds(4096) {
			for _, ops := range bounds(1024) {
				lim := api.Limits{Clients: clients, Cells: cells, Ops: ops}
				right := 1 <= clients && clients <= 8 && 1 <= cells && cells <= 4096 && 1 <= ops && ops <= 1024
				for _, user := range users {
					c, err := client.New(user, lim)
					e := api.OK
					switch {
					case !right:
						e = api.ErrLimits
					case user < 1 || user > clients:
						e = api.ErrUser
					default:
						good++
					}
					mustFail(t, err, "New", user, e)
					if (c == nil) != (e != api.OK) {
						t.Fatalf("P15.2: New(%d, %v): a client %v, error %v", user, lim, c != nil, err)
					}
					if _, err := desk.New(user, lim); api.Code(err) != e {
						t.Fatalf("P8.6: desk.New(%d, %v): %v", user, lim, err)
					}
				}
			}
		}
	}
	if good != (1+2+7+8)*16 {
		t.Errorf("%d clients were made", good)
	}
}

func TestP15_2Begins(t *testing.T) {
	for clients := 1; clients <= 8; clients++ {
		for user := 1; user <= clients; user++ {
			begins(t, user, api.Limits{Clients: clients, Cells: 1, Ops: 1})
			begins(t, user, api.Limits{Clients: clients, Cells: 4096, Ops: 1024})
		}
	}
}

// The limits are those of the desk, and of what it takes.
func TestP15_2Limits(t *testing.T) {
	x := pairOf(t, 1, api.Limits{Clients: 2, Cells: 3, Ops: 2})
	x.ok(cast(1, `2.1 ins 0 "xyz"`))
	x.is(cast(2, `2.2 ins 0 "w"`), 2, api.ErrTurn)
	x.is(cast(2, `2.3 hide 0-1`), 2, api.ErrTurn)
	x.is(cast(2, `3.1 hide 0-1`), 2, api.ErrTurn)
	x.ok(cast(2, `2.2 hide 0-1`))
	for _, c := range []struct {
		s step
		e api.Errno
	}{{insert(0, "abcd"), api.ErrCells}, {insert(0, "abc"), api.OK}, {insert(0, "d"), api.ErrCells}, {undo(), api.OK}, {redo(), api.ErrOps}, {remove(0, 1), api.ErrOps}} {
		if got := x.do(c.s).trouble; got != trouble(c.s.kind, 0, c.e) {
			t.Fatalf("chapter 8: %v: %q", x.steps, got)
		}
	}
	x.shows("yz", 2, `1.1 ins 1 "abc"`, `1.2 off 1.1`)
}

// Two clients know nothing of one another.
func TestP15_2Apart(t *testing.T) {
	x, y := pairAt(t), pairAt(t)
	x.all(insert(0, "a"), tick(), handle(cast(2, `2.2 ins 0 "z"`)))
	y.see()
	y.shows("", 0)
	y.all(tick(), handle(cast(1, `2.1 ins 0 "y"`)), remove(0, 1))
	x.see()
	x.shows("a", 0, `1.1 ins 0 "a"`)
	x.holds(2)
	x.ok(cast(1, `2.1 ins 0 "y"`))
	x.shows("zya", 2, `1.1 ins 2 "a"`)
	y.shows("", 1, `1.1 hide 0-1`)
}
