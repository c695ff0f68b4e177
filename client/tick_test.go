package client_test

import (
	"bytes"
	"fmt"
	"slices"
	"testing"

	"redraft/api"
	"redraft/client"
	"redraft/desk"
	"redraft/msg"
)

// P15.3, P15.11: with nothing pending, a Hello every five ticks, from the first one on; nothing else.
func TestP15_3Quiet(t *testing.T) {
	x := pairAt(t)
	for i := range 41 {
		if i%5 == 0 {
			x.sends("H0")
		} else {
			x.sends()
		}
		x.waits(-1, i%5)
	}
}

// P15.3, P15.11: a command that is never answered is sent every four ticks, and Hello said every five; where both fall together the Submit comes first.
func TestP15_3Unanswered(t *testing.T) {
	for phase := range 9 { // ticks ahead of the insert
		x := pairAt(t)
		for range phase {
			x.do(tick())
		}
		x.do(insert(0, "a"))
		x.waits(-1, (phase+4)%5)
		both := 0
		for i := range 41 {
			var want []string
			if i%4 == 0 {
				want = append(want, `S0 1.1 ins 0 "a"`)
			}
			if (phase+i)%5 == 0 {
				want = append(want, "H0")
			}
			if len(want) == 2 {
				both++
			}
			x.sends(want...)
			x.waits(i%4, (phase+i)%5)
		}
		if both < 2 {
			t.Errorf("only %d ticks with both", both)
		}
	}
}

// Each packet, word for word: from the user to the server, msg.Seal of its message.
func TestP15_3Packets(t *testing.T) {
	for user := 1; user <= 8; user++ {
		lim := api.Limits{Clients: 8, Cells: 9, Ops: 9}
		x := pairOf(t, user, lim)
		other := 1 + user%8
		x.ok(castTo(user, 1, api.Op{Head: api.Head{ID: api.ID{other, 1}, Kind: api.Ins}, Text: "o"}))
		for range 4 {
			x.do(tick())
		}
		x.do(insert(1, "u"))
		got := x.do(tick()).packets
		own := api.Op{Head: api.Head{ID: api.ID{user, 1}, Kind: api.Ins}, At: 1, Text: "u"}
		a, e := msg.Seal(user, 0, api.Msg{Code: api.Submit, Client: user, Rev: 1, Op: own})
		b, e2 := msg.Seal(user, 0, api.Msg{Code: api.Hello, Client: user, Rev: 1})
		if e != api.OK || e2 != api.OK || !samePackets(got, []api.Packet{a, b}) {
			t.Fatalf("P15.3: %v, want %v, %v", got, a, b)
		}
	}
}

// sent at api.Resend and beside it; the wait begins at 0 with each Submit.
func TestP15_3Resend(t *testing.T) {
	x := pairAt(t, tick(), insert(0, "a"))
	x.waits(-1, 0)
	for range 3 {
		if got := x.do(tick()).packets; len(got) == 0 || says(got[0].Bytes) != `S0 1.1 ins 0 "a"` {
			t.Fatalf("P15.3: %v: not sent", x.steps)
		}
		x.waits(0, x.p.quiet)
		for sent := 1; sent <= api.Resend; sent++ {
			if got := x.do(tick()).packets; slices.ContainsFunc(got, func(p api.Packet) bool { return says(p.Bytes)[0] == 'S' }) {
				t.Fatalf("P15.3: sent again behind %d ticks", sent)
			}
			x.waits(sent, x.p.quiet)
		}
		x.do(handle(cast(x.p.received+1, fmt.Sprintf(`2.%d hide 0-1`, x.p.received+1)))) // refused: no cell is there
		x.waits(3, x.p.quiet)
	}
}

// quiet at api.Poll and beside it, where it is broken off by what is received.
func TestP15_3Poll(t *testing.T) {
	for n := range 8 {
		x := pairAt(t, tick())
		for range n {
			x.do(tick())
		}
		x.waits(-1, n%5)
		x.ok(cast(1, `2.1 ins 0 "x"`))
		x.waits(-1, 0)
		for i := 1; i <= 4; i++ {
			x.sends()
			x.waits(-1, i)
		}
		x.sends("H1")
		x.waits(-1, 0)
	}
}

// P15.9: one in flight. However much is pending, only the first one is sent; the next one by the tick behind its confirmation.
func TestP15_9OneInFlight(t *testing.T) {
	x := pairAt(t, tick(), insert(0, "abc"), remove(1, 1), undo(), turn(api.ID{1, 1}, false))
	for n, want := range []string{`1.1 ins 0 "abc"`, `1.2 hide 1-2`, `1.3 off 1.2`, `1.4 off 1.1`} {
		for range 9 {
			for _, p := range x.do(tick()).packets {
				if s := says(p.Bytes); s[0] == 'S' && s != fmt.Sprintf("S%d %s", n, want) {
					t.Fatalf("P15.9: sends %s, want %s", s, want)
				}
			}
		}
		x.ok(ack(n+1, n+1))
		x.waits(-1, 0)
	}
	x.sends()
	x.waits(-1, 1)
}

// P15.11: a command that has just become the first pending one is sent by the next tick, whether it was made behind an empty row or waited behind another.
func TestP15_11Next(t *testing.T) {
	x := pairAt(t, tick(), tick(), tick())
	x.do(insert(0, "a"))
	x.sends(`S0 1.1 ins 0 "a"`)
	x.do(insert(1, "b"))
	x.sends()
	x.ok(ack(1, 1))
	x.sends(`S1 1.2 ins 1 "b"`)
	x.ok(cast(2, `1.2 ins 1 "b"`))
	x.do(insert(2, "c"))
	x.sends(`S2 1.3 ins 2 "c"`)
}

// The Submit's Op is the one behind what has been received since; its base is R.
func TestP15_3Rebased(t *testing.T) {
	x := pairAt(t, tick(), handle(cast(1, `2.1 ins 0 "wxyz"`)), insert(2, "ab"), remove(1, 4))
	x.sends(`S1 1.1 ins 2 "ab"`)
	x.ok(cast(2, `3.1 ins 0 "--"`))
	x.ok(cast(3, `2.2 hide 2-3`))
	x.sends()
	x.sends()
	x.sends()
	x.sends(`S3 1.1 ins 4 "ab"`)
	x.ok(cast(4, `3.2 ins 4 "in"`)) // at the same place: the earlier one stands left
	x.shows("--inz", 4, `1.1 ins 6 "ab"`, `1.2 hide 3-4,6-9`)
	x.ok(ack(5, 1))
	x.sends(`S5 1.2 hide 3-4,6-9`)
	x.ok(cast(6, `2.3 ins 7 "Q"`))
	x.shows("--inQz", 6, `1.2 hide 3-4,6-7,8-10`)
	for range 3 {
		x.sends()
	}
	x.sends(`S6 1.2 hide 3-4,6-7,8-10`)
}

// received: a view of the commands that a client has received.
func received(t *testing.T, c *client.Client) *desk.Replica {
	t.Helper()
	list, err := c.Ops(0, c.Received())
	must(t, err)
	r := desk.NewReplica()
	for k, o := range list {
		if _, err := r.Put(k, o); err != nil {
			t.Fatalf("chapter 8: Put(%d, %s): %v", k, line(o), err)
		}
	}
	return r
}

// heldToP15_9: of the packets of one tick: one Submit at most, with base R, right behind the received commands.
func heldToP15_9(t *testing.T, c *client.Client, ps []api.Packet) (submit []byte) {
	t.Helper()
	for _, p := range ps {
		m, e := msg.Unseal(p.Bytes)
		if e != api.OK || m.Rev != c.Received() {
			t.Fatalf("P15.9: sends %v, %v, R is %d", m, e, c.Received())
		}
		if m.Code != api.Submit {
			continue
		}
		if submit != nil {
			t.Fatal("P15.9: two Submits in one tick")
		}
		submit = p.Bytes
		r := received(t, c)
		if _, err := r.Put(r.Len(), m.Op); err != nil {
			t.Fatalf("P15.9: %s is not right behind the received commands: %v", line(m.Op), err)
		}
	}
	return submit
}

// P15.9: two Submits between which no command was received are byte for byte the same, whatever the user does meanwhile and whatever is held or refused.
func TestP15_9Same(t *testing.T) {
	between := []step{
		insert(0, "front"), remove(0, 2), undo(), redo(), turn(api.ID{2, 1}, false), turn(api.ID{1, 1}, false), move(1), insert(99, "x"),
		handle(unfit(2)), handle(ack(3, 1)), handle(cast(1, `2.1 ins 0 "wxyz"`)), handle(nil), handle(hello(1, 0)), handle(ack(99, 1)), handle(cast(2, `1.1 ins 9 "ab"`)),
	}
	for _, s := range between {
		x := pairAt(t, handle(cast(1, `2.1 ins 0 "wxyz"`)), tick(), insert(2, "ab"), insert(0, "c"))
		first := heldToP15_9(t, x.c, x.do(tick()).packets)
		if first == nil {
			t.Fatal("P15.11: not sent")
		}
		for range 3 {
			var again []byte
			for range 4 {
				x.do(s)
				if again != nil {
					t.Fatal("P15.3: sent too early")
				}
				again = heldToP15_9(t, x.c, x.do(tick()).packets)
			}
			if !bytes.Equal(again, first) {
				t.Fatalf("P15.9: %v: %s, then %s", s, says(first), says(again))
			}
		}
	}
}
