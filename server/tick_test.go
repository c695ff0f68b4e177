package server_test

import (
	"slices"
	"testing"

	"redraft/api"
	"redraft/msg"
)

// crowd: eight clients may come; three have written, and their three commands are durable.
func crowd(t *testing.T) *pair {
	t.Helper()
	x := newPair(t, wide)
	x.all(bootedAs(api.Limits{Clients: 8, Cells: 99, Ops: 99}), handle(sub(5, 0, `5.1 ins 0 "e"`)), handle(sub(2, 0, `2.1 ins 0 "b"`)), handle(sub(7, 0, `7.1 ins 0 "g"`)))
	x.tells("C1>2 A1>5 C1>7 A2>2 C2>5 C2>7 C3>2 C3>5 A3>7")
	return x
}

// All three parts of a tick, each with several clients, whatever the order in which they came.
func TestP14_5Order(t *testing.T) {
	steps := []step{
		handle(sub(7, 3, `7.2 ins 0 "G"`)), handle(sub(5, 1, `5.1 ins 0 "e"`)), handle(hello(8, 1)), handle(hello(1, 0)),
		handle(sub(2, 3, `2.2 ins 0 "B"`)), handle(hello(5, 2)), handle(hello(2, 3)),
	}
	again := handle(sub(7, 3, `7.2 ins 0 "G"`)) // not durable yet: no Ack of its own
	parts := "C1>1 C2>1 C3>1 C3>5 C2>8 C3>8 "
	behind := " A1>5"
	x := crowd(t)
	x.all(append(steps, again)...)
	x.tells(parts + "C4>1 C4>2 C4>5 A4>7 C4>8 C5>1 A5>2 C5>5 C5>7 C5>8" + behind)
	x.tells("")

	// The other way round only the two new commands change places.
	x = crowd(t)
	slices.Reverse(steps)
	x.all(append(steps, again)...)
	x.tells(parts + "C4>1 A4>2 C4>5 C4>7 C4>8 C5>1 C5>2 C5>5 A5>7 C5>8" + behind)
	x.tells("")
}

// Each packet, word for word.
func TestP14_5Packets(t *testing.T) {
	x := pairAt(t, handle(sub(1, 0, `1.1 ins 0 "ab"`)), tick(), handle(sub(1, 0, `1.1 ins 0 "ab"`)), handle(hello(3, 0)), handle(sub(2, 0, `2.1 ins 0 "c"`)))
	got := x.do(tick()).packets
	type packet struct {
		to int
		m  api.Msg
	}
	want := []packet{
		{3, api.Msg{Code: api.Cast, Client: 3, Rev: 1, Op: parse(`1.1 ins 0 "ab"`)}},
		{1, api.Msg{Code: api.Cast, Client: 1, Rev: 2, Op: parse(`2.1 ins 2 "c"`)}},
		{2, api.Msg{Code: api.Ack, Client: 2, Rev: 2, Seq: 1}},
		{3, api.Msg{Code: api.Cast, Client: 3, Rev: 2, Op: parse(`2.1 ins 2 "c"`)}},
		{1, api.Msg{Code: api.Ack, Client: 1, Rev: 1, Seq: 1}},
	}
	if len(got) != len(want) {
		t.Fatalf("P14.5: %q", told(t, got))
	}
	for i, w := range want {
		p, e := msg.Seal(0, w.to, w.m)
		if e != api.OK || got[i].From != 0 || got[i].To != w.to || !slices.Equal(got[i].Bytes, p.Bytes) {
			t.Fatalf("P14.5: packet %d is %v, want %v", i, got[i], p)
		}
	}
}

// A Hello gets what was durable ahead of the tick, the client's own commands as Casts too; what becomes durable comes to it as to all.
func TestP14_5Hello(t *testing.T) {
	x := pairAt(t, handle(hello(2, 0)), handle(sub(1, 0, `1.1 ins 0 "a"`)))
	x.tells("A1>1 C1>2")
	x.all(handle(hello(1, 0)), handle(sub(1, 1, `1.2 ins 0 "b"`)))
	x.tells("C1>1 A2>1 C2>2")
	x.all(handle(hello(1, 1)), handle(hello(2, 0)))
	x.tells("C2>1 C1>2 C2>2")
	x.all(handle(hello(1, 2)), handle(hello(2, 2)))
	x.tells("")
}

// Who is not known is told nothing; who is known is told of all that becomes durable from then on, without asking.
func TestP14_5Known(t *testing.T) {
	x := pairAt(t, handle(sub(1, 0, `1.1 ins 0 "a"`)))
	x.tells("A1>1")
	x.is(handle(hello(3, 1)), api.OK)
	x.tells("")
	x.is(handle(sub(1, 1, `1.2 ins 0 "b"`)), api.OK)
	x.tells("A2>1 C2>3")
	x.is(handle(sub(1, 2, `1.3 ins 0 "c"`)), api.OK)
	x.tells("A3>1 C3>3")
	x.do(booted())
	x.is(handle(sub(2, 3, `2.1 ins 0 "d"`)).on(1), api.OK)
	if got := short(t, x.is(tick().on(1), api.OK).packets); got != "A4>2" {
		t.Fatalf("P14.5: %q", got)
	}
}

// What was noted is forgotten with the tick, whether it gave a packet or not.
func TestP14_5Forgotten(t *testing.T) {
	a := handle(sub(1, 0, `1.1 ins 0 "a"`))
	x := pairAt(t, a, a, handle(hello(2, 0)))
	x.tells("A1>1 C1>2") // the note of a, and the Hello, give nothing: nothing was durable ahead of it
	x.tells("")
	x.is(handle(sub(3, 1, `3.1 ins 0 "b"`)), api.OK)
	x.tells("C2>1 C2>2 A2>3")
	x.all(a, handle(hello(2, 1)))
	x.tells("C2>2 A1>1")
	x.tells("")
}

// The view is that of all that is durable, not of more; a tick without anything new leaves it.
func TestP14_5View(t *testing.T) {
	x := pairAt(t, handle(sub(1, 0, `1.1 ins 0 "ab"`)))
	x.holds(1, 0, "")
	x.is(tick(), api.OK)
	x.holds(1, 1, "ab")
	x.all(handle(sub(1, 1, `1.2 hide 0-1`)), handle(sub(2, 1, `2.1 ins 1 "-"`)), handle(sub(3, 1, `3.1 off 1.1`)))
	x.holds(4, 1, "ab")
	x.is(tick(), api.OK)
	x.holds(4, 4, "-")
	x.is(tick(), api.OK)
	x.holds(4, 4, "-")
}

// A sync that crashes stops the server: no packets, then and ever after, and nothing that was noted changes that.
func TestP14_5Stopped(t *testing.T) {
	for _, keep := range []int{0, 3, 1000} {
		x := crowd(t)
		x.all(handle(hello(1, 0)), handle(sub(5, 0, `5.1 ins 0 "e"`)), handle(sub(7, 3, `7.2 ins 0 "G"`)), arm(1, keep))
		for range 3 {
			if got := x.is(tick(), api.ErrStopped); len(got.packets) > 0 {
				t.Fatalf("P14.5: %q of a Tick that has failed", told(t, got.packets))
			}
			x.holds(4, 3, "ebg")
			x.knows(1, 2, 5, 7)
			x.do(up())
		}
	}
}

// Nothing to sync: the disk is not asked, not even one that is down; what is durable is still told.
func TestP14_5NothingNew(t *testing.T) {
	x := pairAt(t, handle(sub(1, 0, `1.1 ins 0 "a"`)), tick(), crash(0))
	x.tells("")
	x.is(handle(hello(2, 0)), api.OK)
	x.is(handle(sub(1, 0, `1.1 ins 0 "a"`)), api.OK)
	x.tells("C1>2 A1>1")
	x.is(handle(sub(1, 1, `1.2 ins 5 "x"`)), api.ErrPlace)
	x.is(handle(sub(1, 1, `1.2 ins 0 "x"`)), api.ErrStopped)
	x.is(tick(), api.ErrStopped)
	x.holds(1, 1, "a")
}
