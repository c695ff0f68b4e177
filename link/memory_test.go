package link_test

import (
	"bytes"
	"math/rand"
	"runtime"
	"slices"
	"testing"
	"unsafe"
	"weak"

	"redraft/api"
	"redraft/link"
)

// spare: the bytes behind those that are handed in.
var spare = bytes.Repeat([]byte{0xa5}, 24)

// overwrite: all of a list's memory, spare room too, and what an append writes.
func overwrite[T any](l []T, with T) {
	whole := l[:cap(l)]
	for i := range whole {
		whole[i] = with
	}
	_ = append(l, with, with)
}

// stretch: where a list lies in memory, spare room counted.
type stretch struct{ lo, hi uintptr }

func stretchOf[T any](l []T) stretch {
	var one T
	lo := uintptr(unsafe.Pointer(unsafe.SliceData(l)))
	return stretch{lo, lo + uintptr(cap(l))*unsafe.Sizeof(one)}
}

// apart: no two of them have a byte of memory in common.
func apart(t *testing.T, what string, list ...stretch) {
	t.Helper()
	for i, a := range list {
		for _, b := range list[:i] {
			if a.lo < a.hi && b.lo < b.hi && a.lo < b.hi && b.lo < a.hi {
				t.Fatalf("P16.1: %s: two lists share memory", what)
			}
		}
	}
}

// laid: the same packets, their bytes one behind the other in one list, so that each has the next one's bytes in its spare room.
func laid(ps []api.Packet) (out []api.Packet, whole []byte) {
	for _, p := range ps {
		whole = append(whole, p.Bytes...)
	}
	whole = append(whole, spare...)
	lo := 0
	for _, p := range ps {
		out = append(out, api.Packet{From: p.From, To: p.To, Bytes: whole[lo : lo+len(p.Bytes)]})
		lo += len(p.Bytes)
	}
	return out, whole
}

// What Send is handed is neither changed nor kept, whether it sends it or refuses it, though the packets share their bytes.
func TestP16_1HandedIn(t *testing.T) {
	r := rand.New(rand.NewSource(161))
	for range 1500 {
		p := &plain{nodes: 1 + r.Intn(3), most: r.Intn(12)}
		n := made(t, p.nodes, p.most)
		for range 25 {
			c := randomCall(r, p)
			handed := c
			var whole []byte
			handed.ps, whole = laid(c.ps)
			ps, ahead := slices.Clone(handed.ps), bytes.Clone(whole)
			got := ask(t, n, handed)
			if !bytes.Equal(whole, ahead) {
				t.Fatalf("P16.1: %v has changed the bytes that it was handed: %q, were %q", c, whole, ahead)
			}
			for i, q := range handed.ps {
				if q.From != ps[i].From || q.To != ps[i].To || stretchOf(q.Bytes) != stretchOf(ps[i].Bytes) || len(q.Bytes) != len(ps[i].Bytes) {
					t.Fatalf("P16.1: %v has changed the packets that it was handed", c)
				}
			}
			overwrite(whole, 0xee)
			overwrite(handed.ps, packet(7, 7, "seven"))
			if want := p.answer(c); got != want || told(n) != p.told() {
				t.Fatalf("P16.1: %v = %s, want %s; behind it %s, want %s", c, got, want, told(n), p.told())
			}
		}
	}
}

// One packet handed in many times at once: each flight has bytes of its own.
func TestP16_1HandedInTwice(t *testing.T) {
	x := newPair(t, 1, 9)
	b := []byte("abcd")
	p := api.Packet{Bytes: b}
	x.all(send(p, p, api.Packet{Bytes: b[:2]}, api.Packet{Bytes: b[2:]}, p), spoil(0, 1, 1), spoil(2, 0, 2), spoil(3, 1, 4))
	if got, want := told(x.n), `[{0 0>0 "accd" true} {1 0>0 "abcd" false} {2 0>0 "cb" true} {3 0>0 "c`+"`"+`" true} {4 0>0 "abcd" false}] 5 5`; got != want {
		t.Fatalf("P16.1: %s, want %s", got, want)
	}
	if string(b) != "abcd" {
		t.Fatalf("P16.7: Spoil has turned the caller's bytes: %q", b)
	}
}

// stretches: the memory of an answer.
func stretches(fs []api.Flight) []stretch {
	out := []stretch{stretchOf(fs)}
	for _, f := range fs {
		out = append(out, stretchOf(f.Packet.Bytes))
	}
	return out
}

// What Flights and Deliver hand out may be written over and appended to, and stays as it is told whatever comes behind it.
func TestP16_1HandedOut(t *testing.T) {
	r := rand.New(rand.NewSource(162))
	for range 500 {
		x := newPair(t, 1+r.Intn(3), 1+r.Intn(10))
		var kept []api.Flight
		var said []string
		for range 20 {
			c := randomCall(r, x.p)
			if c.kind == "Deliver" {
				x.p.answer(c)
				if f, e := x.n.Deliver(c.k); e == api.OK {
					kept, said = append(kept, f), append(said, toldFlight(f))
				}
			} else {
				x.do(c)
			}
			a, b := x.n.Flights(), x.n.Flights()
			apart(t, "Flights and Deliver", slices.Concat(stretches(a), stretches(b), stretches(kept))...)
			x.see()
			kept = append(kept, b...)
			for _, f := range b {
				said = append(said, toldFlight(f))
			}
			for _, f := range a {
				overwrite(f.Packet.Bytes, 0x11)
			}
			overwrite(a, api.Flight{Number: -7})
			x.see()
		}
		for i, f := range kept {
			if toldFlight(f) != said[i] {
				t.Fatalf("P16.1: what was handed out as %s has become %s", said[i], toldFlight(f))
			}
		}
	}
}

// Bytes of several packets of one answer: an append to one doesn't reach the next, nor the link.
func TestP16_1Appended(t *testing.T) {
	x := newPair(t, 1, 20)
	x.do(send(packet(0, 0, "abc"), packet(0, 0, ""), packet(0, 0, "d"), packet(0, 0, "efghijklmnopqrstuvwxyz")))
	fs := x.n.Flights()
	for _, f := range fs {
		_ = append(f.Packet.Bytes, "!!!!"...)
	}
	_ = append(fs[:1], api.Flight{})
	x.see()
	fs = x.n.Flights()
	for i, want := range []string{"abc", "", "d", "efghijklmnopqrstuvwxyz"} {
		_ = append(fs[i].Packet.Bytes, "!!!!"...)
		if got := string(fs[i].Packet.Bytes); got != want {
			t.Fatalf("P16.1: packet %d of one answer is %q, want %q", i, got, want)
		}
	}
	f, _ := x.n.Deliver(0)
	x.p.answer(deliver(0))
	g, _ := x.n.Deliver(2)
	x.p.answer(deliver(2))
	_ = append(f.Packet.Bytes, "????"...)
	overwrite(g.Packet.Bytes, 'g')
	if string(f.Packet.Bytes) != "abc" {
		t.Fatalf("P16.1: what was delivered is %q", f.Packet.Bytes)
	}
	x.see()
}

// A copy and the packet that it is of have bytes of their own when they come.
func TestP16_1CopiesApart(t *testing.T) {
	n := made(t, 1, 9)
	n.Send(packet(0, 0, "abc"))
	n.Copy(0)
	n.Copy(1)
	var out []api.Flight
	for k := range 3 {
		f, _ := n.Deliver(k)
		out = append(out, f)
	}
	apart(t, "copies", stretches(out)...)
	overwrite(out[1].Packet.Bytes, 'x')
	if string(out[0].Packet.Bytes) != "abc" || string(out[2].Packet.Bytes) != "abc" {
		t.Fatalf("P16.1: %v", out)
	}
}

// What one link has handed out goes into another: they have nothing to do with one another.
func TestP16_1HandedOn(t *testing.T) {
	x, y := newPair(t, 2, 9), newPair(t, 2, 9)
	x.do(send(packet(0, 1, "abc"), packet(1, 0, "de")))
	fs := x.n.Flights()
	y.do(send(fs[0].Packet, fs[1].Packet))
	f, _ := x.n.Deliver(0)
	x.p.answer(deliver(0))
	y.do(send(f.Packet))
	y.all(spoil(0, 0, 1), spoil(1, 0, 1), spoil(2, 1, 1))
	x.see()
	if string(f.Packet.Bytes) != "abc" || string(fs[0].Packet.Bytes) != "abc" || string(fs[1].Packet.Bytes) != "de" {
		t.Fatalf("P16.1: another link has changed %v, %v", f, fs)
	}
}

// Bytes without elements, nil or not, are one and the same.
func TestP16_1NoBytes(t *testing.T) {
	n := made(t, 1, 9)
	n.Send(api.Packet{}, api.Packet{Bytes: []byte{}}, api.Packet{Bytes: make([]byte, 0, 8)})
	n.Copy(0)
	if got, want := told(n), `[{0 0>0 "" false} {1 0>0 "" false} {2 0>0 "" false} {3 0>0 "" false}] 4 4`; got != want {
		t.Fatalf("P16.1: %s, want %s", got, want)
	}
	if k, e := n.Send([]api.Packet{}...); k != 4 || e != api.OK {
		t.Fatalf("P16.3: Send of a list without packets = %d, %d", k, int(e))
	}
	if k, e := n.Send([]api.Packet(nil)...); k != 4 || e != api.OK {
		t.Fatalf("P16.3: Send of nil = %d, %d", k, int(e))
	}
}

// letGo: packets with great bytes are sent and leave; what is answered tells whether anybody still holds those of each number.
func letGo(n *link.Link, many int, leave []int) []weak.Pointer[byte] {
	for range many {
		n.Send(api.Packet{Bytes: make([]byte, 1<<16)})
	}
	var out []weak.Pointer[byte]
	for i, k := range leave {
		if i%2 == 1 {
			n.Copy(k)
			n.Drop(k)
			continue
		}
		f, _ := n.Deliver(k)
		out = append(out, weak.Make(&f.Packet.Bytes[0]))
	}
	return out
}

// No more is kept than is in flight: the bytes of what has left are let go, wherever in the row it stood.
func TestLetsGo(t *testing.T) {
	for _, leave := range [][]int{{0}, {9}, {4}, {5}, {0, 1, 2, 3, 4, 5, 6, 7, 8, 9}, {9, 8, 7, 6, 5, 4, 3, 2, 1, 0}, {3, 6, 5, 1, 8}} {
		n := made(t, 1, 20)
		gone := letGo(n, 10, leave)
		runtime.GC()
		for i, p := range gone {
			if p.Value() != nil {
				t.Errorf("leaving %v: the bytes of number %d are still there", leave, leave[2*i])
			}
		}
		runtime.KeepAlive(n)
	}
}
