package link

import (
	"cmp"
	"slices"

	"redraft/api"
)

// isNode: whether the link has a node of this number.
func (n *Link) isNode(node int) bool { return 0 <= node && node < n.nodes }

// room: how many more packets may be in flight.
func (n *Link) room() int { return n.most - len(n.row) }

// size: the bytes of all packets in flight.
func (n *Link) size() int {
	sum := 0
	for _, f := range n.row {
		sum += len(f.Packet.Bytes)
	}
	return sum
}

// find: where the flight with the number k stands in the row.
func (n *Link) find(k int) (int, api.Errno) {
	i, there := slices.BinarySearchFunc(n.row, k, func(f api.Flight, k int) int { return cmp.Compare(f.Number, k) })
	if !there {
		return 0, api.ErrPacket
	}
	return i, api.OK
}

// begin: a packet is in flight, with bytes of its own, under the next number, which is the answer.
func (n *Link) begin(p api.Packet, spoilt bool) int {
	own := make([]byte, len(p.Bytes))
	copy(own, p.Bytes)
	p.Bytes = own
	number := n.next
	n.row = append(n.row, api.Flight{Number: number, Packet: p, Spoilt: spoilt})
	n.next++
	return number
}

// cut: the flight at i leaves the row. The shorter side moves up, so that a great row is emptied from either end without going through all of it each time; the place that falls free is cleared, so that the row keeps no bytes that have left.
func (n *Link) cut(i int) {
	if i >= len(n.row)/2 {
		n.row = slices.Delete(n.row, i, i+1)
		return
	}
	copy(n.row[1:i+1], n.row[:i])
	n.row[0] = api.Flight{}
	n.row = n.row[1:]
}
