package rope

import (
	"slices"
	"strings"
)

// longest: how many cells a piece may have. Two neighbours of one counter that are not longer together are made one piece, so that there are never more pieces than chapter 3 allows.
const longest = 32

// edge: the outermost piece of a part of the row, by its length and its counter.
type edge struct {
	cells, hid int
}

// fits: have two neighbours to be one piece?
func (e edge) fits(f edge) bool {
	return e.hid == f.hid && e.cells+f.cells <= longest
}

// sums: what can be told of a part of the row without going through it. The visible cells are not counted as such, but those of the least counter: from these it is still known how many are visible when all counters have gone up or down together.
type sums struct {
	cells, pieces, high int
	least, most         int // of the counters
	lowest              int // how many cells have the least counter
	first, last         edge
}

func (s sums) shown() int {
	if s.least > 0 {
		return 0
	}
	return s.lowest
}

func (s sums) isPiece() bool {
	return s.high <= 1
}

// hid: the counter of a piece.
func (s sums) hid() int {
	return s.first.hid
}

// raised: the sums behind a by on all counters.
func (s sums) raised(by int) sums {
	s.least += by
	s.most += by
	s.first.hid += by
	s.last.hid += by
	return s
}

// with: the sums of s's and t's parts as the two sides of a node.
func (s sums) with(t sums) sums {
	both := sums{
		cells:  s.cells + t.cells,
		pieces: s.pieces + t.pieces,
		high:   max(s.high, t.high) + 1,
		least:  min(s.least, t.least),
		most:   max(s.most, t.most),
		first:  s.first,
		last:   t.last,
	}
	for _, side := range [...]sums{s, t} {
		if side.least == both.least {
			both.lowest += side.lowest
		}
	}
	return both
}

// node: a piece, which has runes, or two sides. No node is changed once it is made: trees share nodes. The one without anything is the tree of no cells.
type node struct {
	sums
	runes       []rune
	left, right *node
	// still: what has yet to come to the counters of both sides; the node's own sums have it already. With it a stretch of any length is bumped at its topmost nodes alone.
	still int
}

// piece: these runes with one counter; the runes are the node's from now on.
func piece(runes []rune, hid int) *node {
	n := len(runes)
	if n == 0 {
		return &node{}
	}
	only := edge{cells: n, hid: hid}
	return &node{
		sums:  sums{cells: n, pieces: 1, high: 1, least: hid, most: hid, lowest: n, first: only, last: only},
		runes: runes,
	}
}

func paired(left, right *node) *node {
	return &node{sums: left.sums.with(right.sums), left: left, right: right}
}

// sides: both sides as they are when all that has yet to come to them has come.
func (n *node) sides() (left, right *node) {
	return n.left.raised(n.still), n.right.raised(n.still)
}

// raised: n behind a by on all its counters.
func (n *node) raised(by int) *node {
	if by == 0 {
		return n
	}
	m := *n
	m.sums = n.sums.raised(by)
	m.still += by
	return &m
}

// part: the cells lo to hi-1 of a piece.
func (n *node) part(lo, hi int) *node {
	if lo == 0 && hi == n.cells {
		return n
	}
	return piece(n.runes[lo:hi], n.hid())
}

// merged: two pieces of one counter as one.
func merged(p, q *node) *node {
	return piece(slices.Concat(p.runes, q.runes), p.hid())
}

// write: a piece's runes, visible or not.
func (n *node) write(b *strings.Builder) {
	for _, c := range n.runes {
		b.WriteRune(c)
	}
}
