package world_test

import (
	"bytes"
	"math/rand"
	"slices"
	"testing"

	"redraft/api"
	"redraft/msg"
)

// P17.1: what each node's Tick gives, how many, and the network's next number.
func TestP17_1Tick(t *testing.T) {
	x := newPair(t, room)
	x.is(tick(0), ok)
	x.all(join(1), join(2))
	x.is(tick(1), says(1, 1, "")) // Hello
	for range 4 {
		x.is(tick(1), says(0, 1, ""))
	}
	x.is(tick(1), says(1, 2, "")) // Hello again
	x.is(ins(1, 0, "a"), says(1, 1, `1.1 ins 0 "a"`))
	x.is(tick(1), says(1, 3, "")) // Submit
	x.is(tick(2), says(1, 4, ""))
	x.is(tick(0), says(0, 4, "")) // nobody is known
	for k := range 4 {
		x.is(deliver(k), comes(api.OK, 0, []int{1, 1, 1, 2}[k]))
	}
	x.is(tick(0), says(2, 6, "")) // an Ack and a Cast
	x.is(tick(0), says(0, 6, ""))
	x.is(deliver(4), comes(api.OK, 1, 0))
	x.is(deliver(5), comes(api.OK, 2, 0))
	x.shows(2, "a", 0)
}

// P17.1: packets in every order: six that are under way, each delivered once; all end alike.
func TestP17_1AnyOrder(t *testing.T) {
	var all [][]int
	var permute func(done, left []int)
	permute = func(done, left []int) {
		if len(left) == 0 {
			all = append(all, slices.Clone(done))
		}
		for i, k := range left {
			permute(append(done, k), slices.Delete(slices.Clone(left), i, i+1))
		}
	}
	permute(nil, []int{0, 1, 2, 3, 4, 5})
	for _, list := range all {
		x := pairAt(t)
		// Both clients are told of two revisions, and client 1, which asks, once more: six packets.
		for _, s := range []api.Step{ins(1, 0, "a"), ins(2, 0, "b"), tick(1), tick(2), deliver(0), deliver(1), deliver(2), deliver(3), tick(0), tick(1), tick(1), tick(1), tick(1), drop(8), tick(1), deliver(9), tick(0)} {
			if a := x.try(s); a.Code != api.OK {
				t.Fatalf("P17.1: %s: %+v", x.script(), a)
			}
		}
		flying := x.w.Flights()
		if len(flying) != 6 {
			t.Fatalf("P17.1: under way are %s", flightTexts(flying))
		}
		for _, k := range list {
			x.try(deliver(flying[k].Number))
		}
		x.see()
		for n, v := range x.w.Views() {
			if v.Text != "ab" || v.Known != 2 || v.Pending > 0 {
				t.Fatalf("P6: %s: node %d shows %+v", x.script(), n, v)
			}
		}
	}
}

// P17.1: a packet is delivered or dropped once; a copy of it is another one, and comes again.
func TestP17_1Twice(t *testing.T) {
	x := first(t) // 3: the Ack to client 1
	x.is(double(3), says(5, 0, ""))
	x.is(double(5), says(6, 0, ""))
	x.is(deliver(5), comes(api.OK, 1, 0))
	x.is(deliver(5), fails(api.ErrPacket))
	x.is(drop(5), fails(api.ErrPacket))
	x.is(double(5), fails(api.ErrPacket))
	x.is(spoil(5, 0, 1), fails(api.ErrPacket))
	x.is(deliver(3), comes(api.ErrOld, 1, 0))
	x.is(drop(6), ok)
	x.is(drop(6), fails(api.ErrPacket))
	x.is(deliver(6), fails(api.ErrPacket))
	for _, k := range append([]int{-1, 0, 4, 7, 8}, far...) {
		x.is(deliver(k), fails(api.ErrPacket))
		x.is(drop(k), fails(api.ErrPacket))
		x.is(double(k), fails(api.ErrPacket))
		x.is(spoil(k, -1, 0), fails(api.ErrPacket))
	}
	if len(x.w.Flights()) > 0 {
		t.Fatalf("P17.1: Flights %s", flightTexts(x.w.Flights()))
	}
}

// P17.1: a Submit that comes twice is written once; one that comes late is refused.
func TestP17_1SubmitTwice(t *testing.T) {
	x := pairAt(t, ins(1, 0, "a"), ins(1, 1, "b"), tick(1), double(0), double(0))
	x.is(deliver(0), comes(api.OK, 0, 1))
	x.is(deliver(2), comes(api.OK, 0, 1)) // it has been sent again
	x.is(tick(0), says(1, 5, ""))         // not told twice: it was not durable ahead of the tick
	x.is(deliver(4), comes(api.OK, 1, 0))
	x.is(tick(1), says(1, 6, ""))
	x.is(deliver(5), comes(api.OK, 0, 1))
	x.is(deliver(3), comes(api.ErrStale, 0, 1))
	x.is(tick(0), says(1, 7, ""))
	if got := x.w.Order(); !slices.Equal(got, []api.ID{{1, 1}, {1, 2}}) {
		t.Fatalf("P7: Order %v", got)
	}
}

// P17.1: a spoilt byte at each place, by each mask that a byte can have or none: the packet is refused by its node, wherever it goes.
func TestP17_1Spoil(t *testing.T) {
	base := first(t)
	flights := base.w.Flights()
	if len(flights) != 1 {
		t.Fatal("one packet is under way")
	}
	size := len(flights[0].Packet.Bytes)
	for at := range size {
		for _, mask := range []int{1, 2, 0x80, 0xff, 256 + 4, -1, -255, 1<<40 | 8} {
			x := first(t)
			x.try(double(3))
			x.is(spoil(3, at, mask), ok)
			x.is(spoil(3, at, mask), fails(api.ErrSpoilt))
			x.is(spoil(3, -1, mask), fails(api.ErrPlace))
			want := bytes.Clone(flights[0].Packet.Bytes)
			want[at] ^= byte(uint(mask) % 256)
			if f := x.w.Flights()[0]; !f.Spoilt || !bytes.Equal(f.Packet.Bytes, want) {
				t.Fatalf("P17.1: byte %d by %d: %s", at, mask, flightText(f))
			}
			before := x.w.Views()
			if a := x.do(deliver(3)); a.Code < api.ErrShort || a.Code > api.ErrTail || a.N != 1 || a.M != 0 {
				t.Fatalf("P3: a spoilt packet: %+v", a)
			}
			if !slices.Equal(before, x.w.Views()) {
				t.Fatalf("P3: a spoilt packet has changed %+v to %+v", before, x.w.Views())
			}
			x.is(deliver(5), comes(api.OK, 1, 0))
		}
	}
	for _, at := range append([]int{-1, size, size + 1}, far...) {
		base.is(spoil(3, at, 1), fails(api.ErrPlace))
	}
	for _, mask := range []int{0, 256, -256, 512, 1 << 40, -1 << 40, far[0]} { // their low 8 bits are 0
		base.is(spoil(3, 0, mask), fails(api.ErrPlace))
		base.is(spoil(3, -1, mask), fails(api.ErrPlace))
		base.is(spoil(4, 0, mask), fails(api.ErrPacket))
	}
	base.is(spoil(3, size-1, 1), ok)
	base.is(double(3), says(5, 0, "")) // a copy of a spoilt one is spoilt too
	base.is(spoil(5, 0, 1), fails(api.ErrSpoilt))
	base.is(deliver(5), comes(api.ErrSum, 1, 0))
}

// The mask is the low 8 bits of ID[0]; ID[1] is not looked at.
func TestP17_1Mask(t *testing.T) {
	for _, second := range append([]int{0, 1}, far...) {
		x := pairAt(t, tick(1))
		x.is(api.Step{Kind: api.StepSpoil, B: 3, ID: api.ID{0x1ff & -2, second}}, ok)
		b := x.w.Flights()[0].Packet.Bytes
		y := pairAt(t, tick(1))
		if b[3]^y.w.Flights()[0].Packet.Bytes[3] != 0xfe {
			t.Fatalf("P17.1: byte 3 has become %x", b[3])
		}
	}
}

// P17.1: junk: bytes that are no frame are refused by the node with the frame's error; those that are one are forged, whatever they hold.
func TestP17_1Junk(t *testing.T) {
	right := first(t).w.Flights()[0].Packet.Bytes // an Ack to client 1
	spoilt := bytes.Clone(right)
	spoilt[len(spoilt)-1] ^= 1
	hello, _ := msg.Seal(1, 0, api.Msg{Code: api.Hello, Client: 1})
	for n := range 3 {
		x := first(t)
		before := x.w.Views()
		for _, c := range []struct {
			b []byte
			e api.Errno
		}{
			{nil, api.ErrShort}, {[]byte{0xc7}, api.ErrShort}, {right[:len(right)-1], api.ErrShort}, {right[:8], api.ErrShort},
			{[]byte("junk"), api.ErrMark}, {[]byte{0}, api.ErrMark}, {right[1:], api.ErrMark}, {spoilt, api.ErrSum}, {append(bytes.Clone(right), 0), api.ErrTail},
			{right, api.ErrForged}, {hello.Bytes, api.ErrForged}, {frameOf(""), api.ErrForged}, {frameOf("no message"), api.ErrForged}, {append(bytes.Clone(right), right...), api.ErrTail},
		} {
			x.is(junk(n, string(c.b)), fails(c.e))
		}
		if !slices.Equal(before, x.w.Views()) || len(x.w.Flights()) != 1 {
			t.Fatalf("P3: junk has changed %+v to %+v", before, x.w.Views())
		}
	}
}

// P17.1: what is lost is sent again: each Submit, each Ack and each Cast lost once.
func TestP17_1Lost(t *testing.T) {
	for lost := range 12 {
		x := pairAt(t, ins(1, 0, "ab"), ins(2, 0, "c"))
		n := 0
		for range 60 {
			for k := range 3 {
				x.try(tick(k))
			}
			for _, f := range x.w.Flights() {
				if n == lost {
					x.try(drop(f.Number))
				} else {
					x.try(deliver(f.Number))
				}
				n++
			}
		}
		x.see()
		for _, v := range x.w.Views() {
			if v.Text != x.w.Views()[0].Text || v.Known != 2 || v.Pending > 0 {
				t.Fatalf("packet %d is lost: %+v", lost, x.w.Views())
			}
		}
	}
}

// fill: the network is full but for so many packets; client 1 has made a command, client 2 has not said a word.
func fill(t *testing.T, left int) *pair {
	t.Helper()
	x := pairAt(t, tick(1), ins(1, 0, "ab"))
	for range api.MaxFlight - 1 - left {
		x.w.Play(double(0))
	}
	f := x.p.net[0]
	for range api.MaxFlight - 1 - left {
		x.p.next++
		f.Number = x.p.next - 1
		x.p.net = append(x.p.net, f) // the oracle spoils none of them: one packet's bytes do for all
	}
	return x
}

// P17.1: a network that is full: packets that have no room, all of one Tick, are lost, and nothing else happens; what they were sent for is sent again.
func TestP17_1Full(t *testing.T) {
	x := fill(t, 1)
	const all = api.MaxFlight
	x.try(move(1, 0)) // so that the next lines say what they mean
	for range 4 {
		x.try(tick(2)) // the first one says Hello, the others nothing
	}
	if n := len(x.w.Flights()); n != all {
		t.Fatalf("P17.1: %d in flight, want %d", n, all)
	}
	for _, c := range []struct {
		s api.Step
		a api.Answer
	}{
		{double(0), fails(api.ErrFlight)}, {double(-1), fails(api.ErrPacket)}, {double(all), fails(api.ErrPacket)},
		{tick(1), says(1, all, "")}, // a Submit, which is lost
		{tick(1), says(0, all, "")}, {drop(0), ok}, {double(1), says(all, 0, "")}, {double(1), fails(api.ErrFlight)},
		{drop(1), ok}, {tick(1), says(0, all+1, "")}, {tick(1), says(0, all+1, "")},
		{tick(1), says(2, all+1, "")}, // a Submit and a Hello, and room for one: both are lost
		{double(2), says(all+1, 0, "")}, {drop(3), ok}, {drop(4), ok},
	} {
		if a := x.try(c.s); a != c.a {
			t.Fatalf("P17.1: %s: %+v, want %+v", stepText(c.s), a, c.a)
		}
	}
	for range 3 {
		x.try(tick(1))
	}
	if a := x.try(tick(1)); a != says(1, all+3, "") { // the Submit once more, and now there is room
		t.Fatalf("P17.1: %+v", a)
	}
	x.see()
}

// P17.4: the fair tail of a network that is full.
func TestP17_4Full(t *testing.T) {
	x := fill(t, 0)
	bound := x.w.Bound()
	if a := x.try(settle()); a.Code != api.OK || a.N > bound {
		t.Fatalf("P17.4: %+v, Bound %d", a, bound)
	}
	x.see()
	x.shows(2, "ab", 0)
}

// A client that is far behind: what comes too far ahead is refused, and asked for again.
func TestFarBehind(t *testing.T) {
	x := newPair(t, api.Limits{Clients: 2, Cells: 200, Ops: 200})
	x.all(join(1), join(2), tick(2), deliver(0))
	for range 80 {
		x.try(ins(1, 0, "k"))
	}
	for range 80 { // client 1 is told of each, client 2 of none
		x.try(tick(1))
		for _, f := range x.w.Flights() {
			if f.Packet.To == 0 {
				x.try(deliver(f.Number))
			}
		}
		x.try(tick(0))
		for _, f := range x.w.Flights() {
			if f.Packet.To == 1 {
				x.try(deliver(f.Number))
			}
		}
	}
	x.see()
	r := rand.New(rand.NewSource(178))
	flying := x.w.Flights()
	if len(flying) != 80 {
		t.Fatalf("%d packets are under way to client 2", len(flying))
	}
	x.is(deliver(flying[64].Number), comes(api.ErrFar, 2, 0))
	x.is(deliver(flying[63].Number), comes(api.OK, 2, 0))
	x.is(deliver(flying[0].Number), comes(api.OK, 2, 0))
	for _, i := range r.Perm(80) {
		if i != 0 && i < 63 && i != 30 {
			x.try(deliver(flying[i].Number))
		}
	}
	if v := x.w.Views()[2]; v.Known != 30 {
		t.Fatalf("P2: %+v", v)
	}
	x.is(deliver(flying[30].Number), comes(api.OK, 2, 0))
	if v := x.w.Views()[2]; v.Known != 64 {
		t.Fatalf("P2: %+v", v)
	}
	x.do(settle())
	x.shows(2, x.w.Views()[0].Text, 0)
}
