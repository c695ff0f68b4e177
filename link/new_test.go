package link_test

import (
	"testing"

	"redraft/api"
	"redraft/link"
)

// Nodes and room at their bounds, beside them and far beyond, each with each.
func TestP16_2Bounds(t *testing.T) {
	numbers := append([]int{-10, -9, -1, 0, 1, 2, 3, 8, 9, 10, 11, 1048575, 1048576, 1048577, 2097152}, far...)
	for _, nodes := range numbers {
		for _, most := range numbers {
			n, e := link.New(nodes, most)
			if nodes < 1 || nodes > 9 || most < 0 || most > 1048576 {
				if n != nil || e != api.ErrLimits {
					t.Errorf("P16.2: New(%d, %d) = %v, %d, want nil, ErrLimits", nodes, most, n != nil, int(e))
				}
				continue
			}
			if n == nil || e != api.OK {
				t.Fatalf("P16.2: New(%d, %d) = %v, %d", nodes, most, n != nil, int(e))
			}
			holdNew(t, nodes, most)
		}
	}
}

// holdNew: nothing is in flight, no number was given out, just these nodes are there, and there is room or none.
func holdNew(t *testing.T, nodes, most int) {
	t.Helper()
	x := newPair(t, nodes, most)
	x.see()
	if got := told(x.n); got != "[] 0 0" {
		t.Fatalf("P16.2: New(%d, %d): %s", nodes, most, got)
	}
	for _, c := range []call{deliver(0), drop(0), double(0), spoil(0, 0, 1), deliver(-1), deliver(1)} {
		x.stays("P16.2", c, api.ErrPacket)
	}
	x.says("P16.3", send(), number(0))
	x.stays("P16.3", send(packet(nodes, 0, "x")), api.ErrNode)
	x.stays("P16.3", send(packet(0, -1, "x")), api.ErrNode)
	if most == 0 {
		x.stays("P16.3", send(packet(nodes-1, 0, "x")), api.ErrFlight)
		return
	}
	x.says("P16.3", send(packet(nodes-1, 0, "x")), number(0))
}

// What New made is each time another link.
func TestP16_2Apart(t *testing.T) {
	x, y := newPair(t, 2, 3), newPair(t, 2, 3)
	if x.n == y.n {
		t.Fatal("P16.2: New answers one link twice")
	}
	x.all(send(packet(0, 1, "ab"), packet(1, 0, "c")), spoil(0, 0, 1), drop(1))
	y.see()
	y.all(send(packet(1, 1, "d")), double(0), deliver(0))
	x.see()
	newPair(t, 2, 3).see()
}
