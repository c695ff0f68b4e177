package client_test

import (
	"math/rand"
	"testing"

	"redraft/api"
)

// P15.10: a client that is handed junk of every kind ahead of each call, beside one that never is: they answer, show, tell and send the same.
func TestP15_10Junk(t *testing.T) {
	seen := map[api.Errno]int{}
	for seed := range int64(120) {
		d := &day{r: rand.New(rand.NewSource(1510 + seed))}
		x := pairOf(t, 1+d.r.Intn(3), []api.Limits{room, small}[seed%2])
		c := joined(t, x.p.user, x.p.lim)
		for range 40 {
			s := d.next(x.p)
			want := x.try(s)
			got := ask(t, c, s)
			if got.trouble != want.trouble || got.made != want.made || !samePackets(got.packets, want.packets) {
				t.Fatalf("P15.10: seed %d: behind junk %v = %v, else %v", seed, x.steps, got, want)
			}
			was := told(t, c)
			if was != told(t, x.c) {
				t.Fatalf("P15.10: seed %d: behind junk %v\n%s\nelse\n%s", seed, x.steps, was, told(t, x.c))
			}
			for _, b := range junk(d.r, x.p) {
				err := c.Handle(b)
				if err == nil {
					t.Fatalf("P15.10: %s is taken", says(b))
				}
				seen[api.Code(err)]++
			}
			if now := told(t, c); now != was {
				t.Fatalf("P15.10: seed %d: junk has made\n%s\nof\n%s", seed, now, was)
			}
		}
		if a, b := sendsNext(c, 12), sendsNext(x.c, 12); a != b {
			t.Fatalf("P15.10: seed %d: behind junk it sends %s, else %s", seed, a, b)
		}
	}
	for _, e := range []api.Errno{api.ErrShort, api.ErrMark, api.ErrSum, api.ErrTail, api.ErrCode, api.ErrCut, api.ErrField, api.ErrRest, api.ErrClient, api.ErrOld, api.ErrDouble, api.ErrFar, api.ErrTurn} {
		if seen[e] < 100 {
			t.Errorf("only %d of Handle's error %d", seen[e], e)
		}
	}
}

// P15.10: each kind of junk alone, to a client in the midst of things; then what it was waiting for comes.
func TestP15_10EachKind(t *testing.T) {
	behind := func(x *pair) string {
		out := sendsNext(x.c, 3)
		for _, b := range [][]byte{cast(4, `3.2 ins 0 "n"`), ack(5, 2)} {
			must(t, x.c.Handle(b))
		}
		return out + told(t, x.c) + sendsNext(x.c, 12)
	}
	calm := begun(t)
	want := behind(calm)
	if calm.c.Received() != 6 {
		t.Fatalf("R is %d", calm.c.Received())
	}
	list := junk(rand.New(rand.NewSource(1)), begun(t).p)
	for _, b := range list {
		x := begun(t)
		for range 3 {
			if x.do(handle(b)).trouble == "" {
				t.Fatalf("P15.10: %s is taken", says(b))
			}
		}
		if got := behind(x); got != want {
			t.Fatalf("P15.10: behind %s\n%s\nelse\n%s", says(b), got, want)
		}
	}
	if len(list) < 25 {
		t.Errorf("only %d kinds", len(list))
	}
}
