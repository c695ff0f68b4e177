package server_test

import (
	"bytes"
	"testing"

	"redraft/api"
	"redraft/msg"
)

// begun: two commands are durable, a third one is written.
func begun(t *testing.T) *pair {
	t.Helper()
	x := pairAt(t, handle(sub(1, 0, `1.1 ins 0 "ab"`)), tick(), handle(sub(1, 1, `1.2 hide 0-1`)), tick(), handle(sub(2, 2, `2.1 ins 0 "c"`)))
	x.holds(3, 2, "b")
	x.knows(1, 2)
	return x
}

// Frames that are none: the error is msg.Unseal's, and nothing changes.
func TestP14_3NoFrame(t *testing.T) {
	x := begun(t)
	for _, whole := range [][]byte{hello(3, 0), sub(3, 2, `3.1 ins 0 "x"`), sub(3, 1, `3.1 hide 0-1`), sub(3, 2, `3.1 off 1.1`)} {
		var list [][]byte
		for n := range whole {
			list = append(list, whole[:n])
		}
		for at := range whole {
			for bit := range 8 {
				b := bytes.Clone(whole)
				b[at] ^= 1 << bit
				list = append(list, b)
			}
		}
		list = append(list, append(bytes.Clone(whole), 0), append(bytes.Clone(whole), whole...), nil, []byte("junk"))
		for _, b := range list {
			_, e := msg.Unseal(b)
			if e == api.OK {
				t.Fatalf("%x is a frame", b)
			}
			x.is(handle(b), e)
		}
	}
	x.knows(1, 2)
}

// Right frames that hold no message, or none that may come: msg's errors come first.
func TestP14_3NoMessage(t *testing.T) {
	x := begun(t)
	for _, c := range []struct {
		payload []byte
		e       api.Errno
	}{
		{nil, api.ErrCut},
		{[]byte{0, 1, 0}, api.ErrCode},
		{[]byte{5, 1, 0}, api.ErrCode},
		{[]byte{1, 0, 0}, api.ErrField}, // client 0
		{[]byte{1, 9, 0}, api.ErrField}, // client 9
		{[]byte{2, 0, 0, 1, 1, 3, 0, 1, 'x'}, api.ErrField},
		{[]byte{1, 1, 0x81, 0x40}, api.ErrField},            // rev 8193
		{[]byte{1, 1, 0, 0}, api.ErrRest},                   //
		{[]byte{2, 1, 2, 1, 2, 3, 0, 1, 'x'}, api.ErrField}, // a command of client 2 from client 1
		{[]byte{2, 1, 2, 3, 1, 3, 1, 0, 1}, api.ErrKind},    // a Show
		{[]byte{2, 1, 2, 1, 1, 0, 0, 1, 'x'}, api.ErrID},    // number 0
		{[]byte{2, 1, 2, 4, 1, 3, 1, 3, 0}, api.ErrTarget},  // a Status on itself
		{[]byte{2, 1, 2, 1, 1, 3, 0, 0}, api.ErrEmpty},
	} {
		x.is(handle(raw(c.payload...)), c.e)
	}
	x.knows(1, 2)
}

func TestP14_3Code(t *testing.T) {
	x := begun(t)
	for _, client := range []int{1, 3, 4, 8} { // the code comes ahead of the client
		ack := api.Msg{Code: api.Ack, Client: client, Rev: 1, Seq: 1}
		cast := api.Msg{Code: api.Cast, Client: client, Rev: 1, Op: parse(`1.1 ins 0 "ab"`)}
		for _, m := range []api.Msg{ack, cast} {
			p, e := msg.Seal(0, client, m)
			if e != api.OK {
				t.Fatal(e)
			}
			x.is(handle(p.Bytes), api.ErrCode)
		}
	}
	x.is(handle(hello(3, 0)), api.OK)
	x.is(handle(sub(3, 2, `3.1 ins 0 "x"`)), api.OK)
}

func TestP14_3Client(t *testing.T) {
	for clients := 1; clients <= 8; clients++ {
		lim := api.Limits{Clients: clients, Cells: 9, Ops: 9}
		x := newPair(t, wide)
		x.do(bootedAs(lim))
		for c := 1; c <= 8; c++ {
			e := api.OK
			if c > clients {
				e = api.ErrClient
			}
			x.is(handle(hello(c, 0)), e)
			x.is(handle(sealed(api.Msg{Code: api.Submit, Client: c, Op: api.Op{Head: api.Head{ID: api.ID{c, 1}, Kind: api.Ins}, Text: "x"}})), e)
			if e != api.OK { // ahead of what else is wrong
				x.is(handle(hello(c, 8192)), e)
				x.is(handle(sealed(api.Msg{Code: api.Submit, Client: c, Rev: 7, Op: api.Op{Head: api.Head{ID: api.ID{c, 5}, Kind: api.Ins}, At: 9, Text: "xxxxxxxxxxxxxx"}})), e)
			}
		}
	}
}

// Hellos at 0, at Durable and beyond it; also where more is written than durable.
func TestP14_3Hello(t *testing.T) {
	x := begun(t)
	for c := 1; c <= 3; c++ {
		for rev := 0; rev <= 2; rev++ {
			x.is(handle(hello(c, rev)), api.OK)
		}
		for _, rev := range []int{3, 4, 8191, 8192} {
			x.is(handle(hello(c, rev)), api.ErrBase)
		}
	}
	x.knows(1, 2, 3)
	x.tells("C3>1 A3>2 C3>3")
	x.is(handle(hello(1, 3)), api.OK)
	x.is(handle(hello(1, 4)), api.ErrBase)
	x.tells("")
}

// Of several Hellos between two ticks the last one counts; a refused one doesn't.
func TestP14_3SeveralHellos(t *testing.T) {
	for _, c := range []struct {
		revs []int
		want string
	}{
		{[]int{0}, "C1>3 C2>3"}, {[]int{1}, "C2>3"}, {[]int{2}, ""},
		{[]int{0, 2}, ""}, {[]int{2, 0}, "C1>3 C2>3"}, {[]int{0, 1}, "C2>3"}, {[]int{2, 1, 0}, "C1>3 C2>3"},
		{[]int{1, 1}, "C2>3"}, {[]int{1, 3}, "C2>3"}, {[]int{3}, ""},
	} {
		x := pairAt(t, handle(sub(1, 0, `1.1 ins 0 "ab"`)), tick(), handle(sub(1, 1, `1.2 hide 0-1`)), tick())
		for _, rev := range c.revs {
			e := api.OK
			if rev > 2 {
				e = api.ErrBase
			}
			x.is(handle(hello(3, rev)), e)
		}
		x.tells(c.want)
		x.tells("")
	}
}

// A client that has said Hello is known from then on; one whose frame was refused is not.
func TestP14_3Known(t *testing.T) {
	x := pairAt(t)
	x.is(handle(hello(2, 1)), api.ErrBase)
	x.is(handle(sub(2, 1, `2.1 ins 0 "x"`)), api.ErrBase)
	x.is(handle(sub(2, 0, `2.2 ins 0 "x"`)), api.ErrSeq)
	x.knows()
	x.is(handle(hello(2, 0)), api.OK)
	x.knows(2)
	x.tells("")
	x.knows(2)
	x.is(handle(sub(3, 0, `3.1 ins 0 "x"`)), api.OK)
	x.knows(2, 3)
	x.tells("C1>2 A1>3")
	x.do(booted())
	x.is(handle(sub(3, 0, `3.1 ins 0 "x"`)).on(1), api.OK) // sent again: known by that too
	x.knows(3)
}

// ErrStopped comes ahead of everything.
func TestP14_3Stopped(t *testing.T) {
	x := begun(t)
	x.do(arm(1, 0))
	x.is(tick(), api.ErrStopped)
	for _, b := range [][]byte{nil, []byte("junk"), hello(1, 0), hello(8, 9), sub(1, 1, `1.2 hide 0-1`), sub(3, 0, `3.1 ins 0 "x"`), sub(3, 9, `3.9 ins 9 "x"`), raw(3, 1, 1, 1)} {
		x.is(handle(b), api.ErrStopped)
	}
	x.is(tick(), api.ErrStopped)
	x.do(up())
	x.is(handle(hello(1, 0)), api.ErrStopped)
	x.is(tick(), api.ErrStopped)
	x.holds(3, 2, "b")
}
