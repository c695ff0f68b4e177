package link_test

import (
	"testing"

	"redraft/api"
)

// some: packets of a node that is always there, to itself.
func some(many int) []api.Packet {
	var out []api.Packet
	for range many {
		out = append(out, packet(0, 0, "fill"))
	}
	return out
}

// with: several packets, of which the one at place i is p.
func with(many, i int, p api.Packet) []api.Packet {
	out := some(many)
	out[i] = p
	return out
}

// A From or To at each bound, beside it and far beyond, in the first packet, in the midst and in the last.
func TestP16_3Nodes(t *testing.T) {
	for nodes := 1; nodes <= 9; nodes++ {
		for _, node := range append([]int{-2, -1, 0, 1, nodes - 1, nodes, nodes + 1, 9, 10}, far...) {
			for i := range 3 {
				for _, p := range []api.Packet{packet(node, 0, "x"), packet(0, node, "x"), packet(node, node, "x"), packet(node, nodes-1, "x"), packet(nodes-1, node, "x")} {
					x := newPair(t, nodes, 3)
					if node < 0 || node >= nodes {
						x.stays("P16.3", send(p), api.ErrNode)
						x.stays("P16.3", send(with(3, i, p)...), api.ErrNode)
						continue
					}
					x.says("P16.3", send(with(3, i, p)...), number(0))
				}
			}
		}
	}
}

// Every node to every node, itself too.
func TestP16_3Everywhere(t *testing.T) {
	for nodes := 1; nodes <= 9; nodes++ {
		x := newPair(t, nodes, nodes*nodes)
		for from := range nodes {
			for to := range nodes {
				x.says("P16.3", send(packet(from, to, "here")), number(from*nodes+to))
			}
		}
	}
}

// None, one and many: the first's number is told, the others follow in the order in which they were handed in.
func TestP16_3Numbers(t *testing.T) {
	x := newPair(t, 4, 100)
	next := 0
	for many := range 13 {
		var ps []api.Packet
		for i := range many {
			ps = append(ps, packet(i%4, (i+many)%4, "0123456789abc"[i:many]))
		}
		x.says("P16.3", send(ps...), number(next))
		next += many
		for i, f := range x.n.Flights()[next-many:] {
			if f.Number != next-many+i || f.Packet.From != i%4 || string(f.Packet.Bytes) != "0123456789abc"[i:many] || f.Spoilt {
				t.Fatalf("P16.3: packet %d of %d: %v", i, many, f)
			}
		}
		x.says("P16.3: of no packets", send(), number(next))
		if x.n.Next() != next || x.n.Len() != next {
			t.Fatalf("P16.8: Next %d, Len %d, want %d", x.n.Next(), x.n.Len(), next)
		}
	}
}

// Bytes of all values, none, nil, and many.
func TestP16_3Bytes(t *testing.T) {
	every := make([]byte, 256)
	for i := range every {
		every[i] = byte(i)
	}
	great := make([]byte, api.MaxPayload+12)
	for i := range great {
		great[i] = byte(i * i >> 3)
	}
	x := newPair(t, 2, 9)
	x.all(send(api.Packet{From: 1, Bytes: every}, api.Packet{From: 1}, api.Packet{From: 1, Bytes: []byte{}}, api.Packet{To: 1, Bytes: great}, api.Packet{To: 1, Bytes: []byte{0}}), double(3), double(1), double(0))
	for k := range 8 {
		x.do(deliver(k))
	}
}

// Just as much room as is wanted, one less, one more; what is in flight already counts, what has left doesn't.
func TestP16_3Room(t *testing.T) {
	for most := range 8 {
		for flying := range most + 1 {
			for many := range 10 {
				x := newPair(t, 2, most)
				x.do(send(some(flying)...))
				for k := range flying / 2 {
					x.do([]call{drop(k), deliver(k)}[k%2])
				}
				for range flying / 2 {
					x.do(double(flying - 1))
				}
				next := x.n.Next()
				c := send(some(many)...)
				if many > most-flying {
					x.stays("P16.3", c, api.ErrFlight)
					continue
				}
				x.says("P16.3", c, number(next))
			}
		}
	}
}

// Both errors at once: the wrong node is told, wherever it stands, also where the room ends ahead of it.
func TestP16_3Both(t *testing.T) {
	for most := range 4 {
		for i := range 5 {
			for _, wrong := range []api.Packet{packet(3, 0, "x"), packet(0, 3, "x"), packet(-1, 0, "x"), packet(0, -1, "x"), packet(far[0], far[len(far)-1], "x")} {
				x := newPair(t, 3, most)
				x.stays("P16.3", send(with(5, i, wrong)...), api.ErrNode)
				x.stays("P16.3", send(with(5, i, packet(2, 2, "x"))...), api.ErrFlight)
			}
		}
	}
}

// A link without room takes nothing but a Send of no packets.
func TestP16_3NoRoom(t *testing.T) {
	x := newPair(t, 3, 0)
	for range 3 {
		x.says("P16.3", send(), number(0))
		x.stays("P16.3", send(packet(0, 1, "")), api.ErrFlight)
		x.stays("P16.3", send(packet(0, 3, "")), api.ErrNode)
		x.stays("P16.6", double(0), api.ErrPacket)
	}
}

// A full link says what its next number is, and takes one more as soon as one has left.
func TestP16_3Full(t *testing.T) {
	x := newPair(t, 2, 3)
	x.all(send(packet(0, 1, "a"), packet(0, 1, "b"), packet(0, 1, "c")))
	for k := range 20 {
		x.says("P16.3", send(), number(k+3))
		x.stays("P16.3", send(packet(1, 0, "d")), api.ErrFlight)
		x.stays("P16.6", double(k+2), api.ErrFlight)
		x.do([]call{deliver(k), drop(k)}[k%2])
		x.stays("P16.3", send(packet(1, 0, "d"), packet(1, 0, "e")), api.ErrFlight)
		if k%3 == 0 {
			x.says("P16.6", double(k+1), number(k+3))
			continue
		}
		x.says("P16.3", send(packet(1, 0, "d")), number(k+3))
	}
}
