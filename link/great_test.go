package link_test

import (
	"math/rand"
	"testing"

	"redraft/api"
	"redraft/link"
)

// word: the bytes of the i-th packet of a great link, which tell its number.
func word(i int) []byte { return []byte{byte(i), byte(i >> 8), byte(i >> 16)} }

// full: a link with the greatest room, filled by one Send.
func full(t *testing.T) *link.Link {
	t.Helper()
	ps := make([]api.Packet, api.MaxFlight+1)
	for i := range ps {
		ps[i] = api.Packet{From: i % 9, To: i / 9 % 9, Bytes: word(i)}
	}
	n := made(t, 9, api.MaxFlight)
	if k, e := n.Send(ps...); k != 0 || e != api.ErrFlight || n.Len() != 0 || n.Next() != 0 {
		t.Fatalf("P16.3: one too many: %d, %d, Len %d, Next %d", k, int(e), n.Len(), n.Next())
	}
	if k, e := n.Send(ps[:api.MaxFlight]...); k != 0 || e != api.OK || n.Len() != 1048576 || n.Next() != 1048576 {
		t.Fatalf("P16.3: the greatest room: %d, %d, Len %d, Next %d", k, int(e), n.Len(), n.Next())
	}
	if k, e := n.Send(ps[0]); k != 0 || e != api.ErrFlight {
		t.Fatalf("P16.3: one more: %d, %d", k, int(e))
	}
	if k, e := n.Copy(77); k != 0 || e != api.ErrFlight {
		t.Fatalf("P16.6: one more: %d, %d", k, int(e))
	}
	return n
}

// holdWord: a flight of a great link is what was sent.
func holdWord(t *testing.T, f api.Flight, k int) {
	t.Helper()
	if f.Number != k || f.Packet.From != k%9 || f.Packet.To != k/9%9 || string(f.Packet.Bytes) != string(word(k)) || f.Spoilt {
		t.Fatalf("P16.9: number %d is %v", k, f)
	}
}

// The greatest link, emptied from below, from above, and from both ends in turns.
func TestP16_8Greatest(t *testing.T) {
	for _, from := range []func(i int) int{
		func(i int) int { return i },
		func(i int) int { return api.MaxFlight - 1 - i },
		func(i int) int { return []int{i / 2, api.MaxFlight - 1 - i/2}[i%2] },
	} {
		n := full(t)
		for i, f := range n.Flights() {
			holdWord(t, f, i)
		}
		for i := range api.MaxFlight {
			f, e := n.Deliver(from(i))
			if e != api.OK || n.Len() != api.MaxFlight-1-i {
				t.Fatalf("P16.4: Deliver(%d) = %v, %d, Len %d", from(i), f, int(e), n.Len())
			}
			holdWord(t, f, from(i))
		}
		if len(n.Flights()) != 0 || n.Next() != api.MaxFlight {
			t.Fatalf("P16.8: Next %d behind all", n.Next())
		}
	}
}

// The greatest link: packets anywhere in it leave, are doubled and spoilt.
func TestP16_8GreatestAnywhere(t *testing.T) {
	n := full(t)
	r := rand.New(rand.NewSource(167))
	gone := map[int]int{}
	for i := range 400 {
		k := r.Intn(api.MaxFlight)
		f, e := n.Deliver(k)
		if _, twice := gone[k]; twice {
			if e != api.ErrPacket {
				t.Fatalf("P16.4: number %d is delivered twice", k)
			}
			continue
		}
		holdWord(t, f, k)
		gone[k] = i
		if next, e := n.Copy(api.MaxFlight - 1 - i); e == api.OK && (next != n.Next()-1 || n.Spoil(next, 2, 0x80) != api.OK) {
			t.Fatalf("P16.6: a copy with the number %d, Next %d", next, n.Next())
		}
	}
	last := -1
	for _, f := range n.Flights() {
		if _, left := gone[f.Number]; left || f.Number <= last || f.Spoilt != (f.Number >= api.MaxFlight) {
			t.Fatalf("P16.8: %v behind number %d", f, last)
		}
		last = f.Number
		if f.Number < api.MaxFlight {
			holdWord(t, f, f.Number)
		}
	}
}

// A link through which many more packets go than it has room for, a few at a time.
func TestP16_8Stream(t *testing.T) {
	n := made(t, 9, 3)
	n.Send(api.Packet{Bytes: word(0)}, api.Packet{From: 1, Bytes: word(1)}, api.Packet{From: 2, Bytes: word(2)})
	for i := 3; i < 2*api.MaxFlight; i++ {
		f, e := n.Deliver(i - 3)
		if e != api.OK {
			t.Fatalf("P16.4: Deliver(%d) = %d", i-3, int(e))
		}
		holdWord(t, f, i-3)
		if k, e := n.Send(api.Packet{From: i % 9, To: i / 9 % 9, Bytes: word(i)}); k != i || e != api.OK || n.Len() != 3 {
			t.Fatalf("P16.3: packet %d: %d, %d, Len %d", i, k, int(e), n.Len())
		}
	}
}
