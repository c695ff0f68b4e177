package client_test

import (
	"fmt"
	"math/rand"
	"slices"
	"testing"

	"redraft/api"
	"redraft/client"
	"redraft/msg"
)

// mailbag: a client that holds nothing, and the frames of its next revisions, in their order.
type mailbag struct {
	user  int
	lim   api.Limits
	steps []step
	mail  [][]byte
}

// bags: others' commands of all kinds, and the client's own as Acks and as Casts.
func bags() []mailbag {
	return []mailbag{
		{1, room, nil, [][]byte{cast(1, `2.1 ins 0 "ab"`), cast(2, `3.1 ins 1 "c"`), cast(3, `2.2 hide 0-2`), cast(4, `3.2 off 2.2`)}},
		{1, room, []step{insert(0, "m"), tick(), tick()}, [][]byte{cast(1, `2.1 ins 0 "ab"`), ack(2, 1), cast(3, `2.2 hide 2-3`), cast(4, `3.1 off 1.1`)}},
		{1, room, []step{insert(0, "m"), insert(1, "n"), tick()}, [][]byte{cast(1, `2.1 ins 0 "ab"`), cast(2, `1.1 ins 2 "m"`), ack(3, 2), cast(4, `3.1 ins 3 "q"`)}},
		{1, room, []step{handle(cast(1, `2.1 ins 0 "wxyz"`)), tick(), remove(1, 2), undo(), tick(), insert(2, "i")}, [][]byte{ack(2, 1), cast(3, `1.2 off 1.1`), cast(4, `3.1 ins 1 "q"`), cast(5, `1.3 ins 3 "i"`)}},
	}
}

// begin: the client that the bag is for.
func (b mailbag) begin(t *testing.T) *client.Client {
	t.Helper()
	c := joined(t, b.user, b.lim)
	for _, s := range b.steps {
		if got := ask(t, c, s); got.trouble != "" {
			t.Fatalf("%v: %s", s, got.trouble)
		}
	}
	if len(c.Held()) > 0 {
		t.Fatalf("%v are held", c.Held())
	}
	return c
}

// inOrder: what the client shows, tells and sends behind the mail, one by one in its order.
func (b mailbag) inOrder(t *testing.T) string {
	t.Helper()
	c := b.begin(t)
	for _, m := range b.mail {
		if err := c.Handle(m); err != nil {
			t.Fatalf("P15.8: %s: %v", says(m), err)
		}
	}
	return told(t, c) + sendsNext(c, 12)
}

// inThisOrder: P15.8, the mail by its numbers, each of which is there once at least.
func (b mailbag) inThisOrder(t *testing.T, row []int, want string) {
	t.Helper()
	c := b.begin(t)
	came := map[int]int{}
	for _, k := range row {
		m, _ := msg.Unseal(b.mail[k])
		e := api.OK
		if came[k] > 0 {
			e = api.ErrDouble
			if m.Rev <= c.Received() {
				e = api.ErrOld
			}
		}
		came[k]++
		mustFail(t, c.Handle(b.mail[k]), "Handle", m.Rev, e)
	}
	if got := told(t, c) + sendsNext(c, 12); got != want {
		t.Fatalf("P15.8: in the order %v it tells and sends\n%s\nin their own\n%s", row, got, want)
	}
}

// eachOrder: all orders of a row of numbers.
func eachOrder(ahead, rest []int, f func([]int)) {
	if len(rest) == 0 {
		f(ahead)
		return
	}
	for i, k := range rest {
		if slices.Contains(rest[:i], k) {
			continue // the same order again
		}
		eachOrder(append(slices.Clone(ahead), k), slices.Delete(slices.Clone(rest), i, i+1), f)
	}
}

// P15.8: four revisions in every order, each of them twice.
func TestP15_8EveryOrder(t *testing.T) {
	for i, b := range bags() {
		want := b.inOrder(t)
		n := 0
		eachOrder(nil, []int{0, 0, 1, 1, 2, 2, 3, 3}, func(row []int) {
			b.inThisOrder(t, row, want)
			n++
		})
		if n != 2520 {
			t.Errorf("bag %d: %d orders", i, n)
		}
	}
}

// P15.8: as many revisions as may be held, some of them again, in random orders.
func TestP15_8Width(t *testing.T) {
	for seed := range int64(40) {
		r := rand.New(rand.NewSource(1580 + seed))
		lim := api.Limits{Clients: 3, Cells: 300, Ops: 100}
		x := pairOf(t, 1+r.Intn(3), lim)
		for range r.Intn(6) {
			x.try(randomCall(r, x.p))
		}
		b := mailbag{user: x.p.user, lim: lim, steps: accepted(x), mail: plan(r, x.p, api.Width)}
		if len(b.mail) != api.Width {
			t.Fatalf("seed %d: only %d messages", seed, len(b.mail))
		}
		want := b.inOrder(t)
		for range 10 {
			row := r.Perm(api.Width)
			for range r.Intn(40) {
				row = slices.Insert(row, r.Intn(len(row)+1), r.Intn(api.Width))
			}
			b.inThisOrder(t, row, want)
		}
		back := make([]int, api.Width)
		for i := range back {
			back[i] = api.Width - 1 - i
		}
		b.inThisOrder(t, back, want)
	}
}

// accepted: those of its steps that were not refused.
func accepted(x *pair) []step {
	c := joined(x.t, x.p.user, x.p.lim)
	var out []step
	for _, s := range x.steps {
		if ask(x.t, c, s).trouble == "" {
			out = append(out, s)
		}
	}
	return out
}

// P15.8: from R on, wherever R is, and one behind the other: a client that has taken one bag takes the next.
func TestP15_8Again(t *testing.T) {
	r := rand.New(rand.NewSource(158))
	lim := api.Limits{Clients: 3, Cells: 2000, Ops: 700}
	x, c := pairOf(t, 2, lim), joined(t, 2, lim)
	for range 12 {
		for range 4 {
			s := randomCall(r, x.p)
			x.try(s)
			ask(t, c, s)
		}
		mail := plan(r, x.p, 1+r.Intn(20))
		for _, m := range mail {
			x.try(handle(m))
		}
		for _, k := range r.Perm(len(mail)) {
			must(t, c.Handle(mail[k]))
		}
		x.see()
		if got, want := told(t, c), told(t, x.c); got != want {
			t.Fatalf("P15.8: out of order\n%s\nin order\n%s", got, want)
		}
		for range r.Intn(7) {
			got, want := fmt.Sprint(c.Tick()), fmt.Sprint(x.try(tick()).packets)
			if got != want {
				t.Fatalf("P15.8: sends %s, in order %s", got, want)
			}
		}
	}
	if x.c.Received() < 60 {
		t.Errorf("only %d are received", x.c.Received())
	}
}
