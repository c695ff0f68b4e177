package link_test

import (
	"bytes"
	"fmt"
	"math/rand"
	"testing"

	"redraft/api"
)

// randomNumber: of a packet: mostly one that is in flight, now and then one that was, that is still to come, or a far one.
func randomNumber(r *rand.Rand, p *plain) int {
	switch r.Intn(12) {
	case 0:
		return far[r.Intn(len(far))]
	case 1:
		return r.Intn(len(p.bag)+4) - 2
	}
	if p.count("") == 0 {
		return 0
	}
	for {
		if k := r.Intn(len(p.bag)); p.flying(k) {
			return k
		}
	}
}

// randomNode: mostly one that is there.
func randomNode(r *rand.Rand, nodes int) int {
	switch r.Intn(40) {
	case 0:
		return far[r.Intn(len(far))]
	case 1:
		return []int{-1, nodes}[r.Intn(2)]
	}
	return r.Intn(nodes)
}

func randomPackets(r *rand.Rand, p *plain) []api.Packet {
	var out []api.Packet
	for range r.Intn(5) {
		b := make([]byte, r.Intn(6))
		r.Read(b)
		out = append(out, api.Packet{From: randomNode(r, p.nodes), To: randomNode(r, p.nodes), Bytes: b})
	}
	return out
}

// randomCall: any call, mostly of what is in flight.
func randomCall(r *rand.Rand, p *plain) call {
	k := randomNumber(r, p)
	switch x := r.Intn(20); {
	case x < 5:
		return send(randomPackets(r, p)...)
	case x < 9:
		return deliver(k)
	case x < 11:
		return drop(k)
	case x < 15:
		return double(k)
	}
	at := r.Intn(6) - 1
	if r.Intn(10) == 0 {
		at = far[r.Intn(len(far))]
	}
	return spoil(k, at, byte(r.Intn(256)&r.Intn(256)))
}

// Long scripts of all calls, beside a plain bag.
func TestP16_1Scripts(t *testing.T) {
	r := rand.New(rand.NewSource(163))
	for range 2500 {
		x := newPair(t, 1+r.Intn(9), r.Intn(14))
		for range 60 {
			x.do(randomCall(r, x.p))
		}
	}
}

// Every script of four calls out of these, behind two packets of which one is spoilt.
func TestP16_1AllShortScripts(t *testing.T) {
	calls := []call{
		send(), send(packet(0, 1, "x")), send(packet(1, 0, ""), packet(1, 1, "yz")), send(packet(0, 1, "x"), packet(2, 0, "x")),
		deliver(0), deliver(1), deliver(2), drop(0), drop(1), drop(2), double(0), double(1), double(2),
		spoil(0, 0, 1), spoil(1, 1, 0x40), spoil(2, 0, 2), spoil(0, 2, 1), spoil(1, 0, 0),
	}
	n := len(calls)
	for i := range n * n * n * n {
		x := newPair(t, 2, 4)
		x.all(send(packet(0, 1, "ab"), packet(1, 0, "cd")), spoil(1, 0, 1), calls[i%n], calls[i/n%n], calls[i/n/n%n], calls[i/n/n/n])
	}
}

// Two links in turns have nothing to do with one another.
func TestP16_1Apart(t *testing.T) {
	r := rand.New(rand.NewSource(164))
	for range 300 {
		x, y := newPair(t, 1+r.Intn(3), r.Intn(9)), newPair(t, 1+r.Intn(3), r.Intn(9))
		for range 40 {
			x.do(randomCall(r, x.p))
			y.see()
			y.do(randomCall(r, y.p))
			x.see()
		}
	}
}

// A link that has refused calls in between answers as one that never got them; what only tells changes nothing.
func TestP16_1Refused(t *testing.T) {
	r := rand.New(rand.NewSource(165))
	for range 1500 {
		x := newPair(t, 1+r.Intn(3), r.Intn(9))
		clean := made(t, x.p.nodes, x.p.most)
		for range 40 {
			c := randomCall(r, x.p)
			got := x.do(c)
			for range r.Intn(3) {
				x.n.Flights()
				x.n.Len()
				x.n.Next()
			}
			if _, err := fmt.Sscanf(got, "error %d", new(int)); err == nil {
				continue
			}
			if other := ask(t, clean, c); other != got || told(clean) != told(x.n) {
				t.Fatalf("P16.1: %v = %s, without the refused calls %s", c, got, other)
			}
		}
	}
}

// parcel: what a test knows of a number by its own calls alone: whose copy it is in the end, and whether it is spoilt.
type parcel struct {
	root   int // the number that was sent
	spoilt bool
}

// ledger: who sent what, and what has become of it.
type ledger struct {
	sent                          map[int]api.Packet // by the number that it was sent under
	parcels                       map[int]parcel
	gone                          map[int]bool
	sends, copies, comes, lost    int
	delivered, doubles, forgotten map[int]int // by root
}

// holds: P16.9: what was sent and copied is together what came, what was lost and what is in flight, in all and packet by packet.
func (l *ledger) holds(t *testing.T, x *pair) {
	t.Helper()
	if l.sends+l.copies != l.comes+l.lost+x.n.Len() || x.n.Next() != l.sends+l.copies {
		t.Fatalf("P16.9: %d sent, %d copied, %d came, %d lost, Len %d, Next %d", l.sends, l.copies, l.comes, l.lost, x.n.Len(), x.n.Next())
	}
	flying := map[int]int{}
	for _, f := range x.n.Flights() {
		flying[l.parcels[f.Number].root]++
	}
	for root := range l.sent {
		if 1+l.doubles[root] != l.delivered[root]+l.forgotten[root]+flying[root] {
			t.Fatalf("P16.9: of packet %d: %d copies, %d came, %d lost, %d in flight", root, l.doubles[root], l.delivered[root], l.forgotten[root], flying[root])
		}
	}
}

// came: P16.9: what comes is what was sent, byte for byte, but for one byte of a packet that is spoilt; no number comes twice.
func (l *ledger) came(t *testing.T, k int, f api.Flight) {
	t.Helper()
	p := l.parcels[k]
	was := l.sent[p.root]
	if f.Number != k || l.gone[k] || f.Packet.From != was.From || f.Packet.To != was.To || f.Spoilt != p.spoilt || len(f.Packet.Bytes) != len(was.Bytes) {
		t.Fatalf("P16.9: number %d comes as %v, was sent as %v", k, f, was)
	}
	other := 0
	for i, b := range f.Packet.Bytes {
		if b != was.Bytes[i] {
			other++
		}
	}
	if want := map[bool]int{true: 1}[p.spoilt]; other != want {
		t.Fatalf("P16.9: number %d comes with %d other bytes, want %d: %v, was %v", k, other, want, f, was)
	}
}

// leaves: a number is in flight no longer.
func (l *ledger) leaves(t *testing.T, k int) {
	t.Helper()
	if l.gone[k] {
		t.Fatalf("P16.9: number %d leaves twice", k)
	}
	l.gone[k] = true
}

// step: a call of a link, written down if it is done.
func (l *ledger) step(t *testing.T, x *pair, c call) {
	t.Helper()
	root := l.parcels[c.k].root
	switch c.kind {
	case "Send":
		k, e := x.n.Send(c.ps...)
		for i, p := range c.ps {
			if e == api.OK {
				l.sent[k+i] = api.Packet{From: p.From, To: p.To, Bytes: bytes.Clone(p.Bytes)}
				l.parcels[k+i] = parcel{root: k + i}
				l.sends++
			}
		}
	case "Deliver":
		if f, e := x.n.Deliver(c.k); e == api.OK {
			l.came(t, c.k, f)
			l.leaves(t, c.k)
			l.comes++
			l.delivered[root]++
		}
	case "Drop":
		if x.n.Drop(c.k) == api.OK {
			l.leaves(t, c.k)
			l.lost++
			l.forgotten[root]++
		}
	case "Copy":
		if k, e := x.n.Copy(c.k); e == api.OK {
			if _, double := l.parcels[k]; double {
				t.Fatalf("P16.9: the number %d is given out twice", k)
			}
			l.parcels[k] = l.parcels[c.k]
			l.copies++
			l.doubles[root]++
		}
	case "Spoil":
		if x.n.Spoil(c.k, c.at, c.mask) == api.OK {
			l.parcels[c.k] = parcel{root, true}
		}
	}
	x.p.answer(c)
}

func TestP16_9Bag(t *testing.T) {
	r := rand.New(rand.NewSource(166))
	for range 1500 {
		x := newPair(t, 1+r.Intn(4), 1+r.Intn(16))
		l := &ledger{sent: map[int]api.Packet{}, parcels: map[int]parcel{}, gone: map[int]bool{}, delivered: map[int]int{}, doubles: map[int]int{}, forgotten: map[int]int{}}
		for range 50 {
			l.step(t, x, randomCall(r, x.p))
			l.holds(t, x)
		}
		for _, f := range x.n.Flights() {
			l.step(t, x, deliver(f.Number))
		}
		l.holds(t, x)
		if x.n.Len() != 0 {
			t.Fatalf("P16.8: Len %d behind all", x.n.Len())
		}
	}
}
