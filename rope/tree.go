package rope

import (
	"sort"

	"redraft/api"
)

// cut: the text's runes as pieces, all with that counter.
func cut(text string, hid int) []*node {
	var pieces []*node
	var runes []rune
	for _, c := range text {
		if len(runes) == longest {
			pieces = append(pieces, piece(runes, hid))
			runes = nil
		}
		runes = append(runes, c)
	}
	return append(pieces, piece(runes, hid))
}

// grown: a tree of pieces of which no two neighbours fit together.
func grown(pieces []*node) *node {
	switch len(pieces) {
	case 0:
		return &node{}
	case 1:
		return pieces[0]
	}
	middle := len(pieces) / 2
	return paired(grown(pieces[:middle]), grown(pieces[middle:]))
}

// concat: the row of a and then b. Where the two meet, two pieces may have to become one; its own neighbours don't fit to it then, because they didn't fit to a part of it.
func concat(a, b *node) *node {
	if a.cells == 0 || b.cells == 0 || !a.last.fits(b.first) {
		return join(a, b)
	}
	head, p := a.split(a.cells - a.last.cells)
	q, tail := b.split(b.first.cells)
	return join(join(head, merged(p, q)), tail)
}

// join: concat for rows whose pieces don't fit together where they meet. It goes down the higher tree's inner edge, to where the lower one is as high, so that its steps are as many as the heights differ; the tree is at most one higher than the higher one.
func join(a, b *node) *node {
	switch {
	case a.cells == 0:
		return b
	case b.cells == 0:
		return a
	case a.high > b.high+1:
		left, right := a.sides()
		return balanced(left, join(right, b))
	case b.high > a.high+1:
		left, right := b.sides()
		return balanced(join(a, left), right)
	}
	return paired(a, b)
}

// balanced: a node of two sides whose heights differ by two at most, turned so that those of its own sides differ by one at most.
func balanced(left, right *node) *node {
	switch {
	case left.high > right.high+1:
		outer, inner := left.sides()
		if outer.high >= inner.high {
			return paired(outer, paired(inner, right))
		}
		a, b := inner.sides()
		return paired(paired(outer, a), paired(b, right))
	case right.high > left.high+1:
		inner, outer := right.sides()
		if outer.high >= inner.high {
			return paired(paired(left, inner), outer)
		}
		a, b := inner.sides()
		return paired(paired(left, a), paired(b, outer))
	}
	return paired(left, right)
}

// split: the first at cells and the others.
func (n *node) split(at int) (*node, *node) {
	switch {
	case at <= 0:
		return &node{}, n
	case at >= n.cells:
		return n, &node{}
	case n.isPiece():
		return n.part(0, at), n.part(at, n.cells)
	}
	left, right := n.sides()
	if at <= left.cells {
		a, b := left.split(at)
		return a, concat(b, right)
	}
	a, b := right.split(at - left.cells)
	return concat(left, a), b
}

// bumped: n, whose first cell has the total place from, behind a by on the counters of the list's cells.
func (n *node) bumped(from int, list []api.Range, by int) *node {
	list = meeting(list, from, from+n.cells)
	switch {
	case len(list) == 0:
		return n
	case list[0].Lo <= from && from+n.cells <= list[0].Hi:
		return n.raised(by)
	case n.isPiece():
		return n.bumpedParts(from, list, by)
	}
	left, right := n.sides()
	l := left.bumped(from, list, by)
	r := right.bumped(from+left.cells, list, by)
	if l.sums == left.sums && r.sums == right.sums {
		// The change has not come up to here: n's sums, its balance and what meets between its sides hang on theirs alone.
		return &node{sums: n.sums, left: l, right: r}
	}
	return concat(l, r)
}

// meeting: the ranges that have a place among lo to hi-1.
func meeting(list []api.Range, lo, hi int) []api.Range {
	first := sort.Search(len(list), func(i int) bool { return list[i].Hi > lo })
	behind := sort.Search(len(list), func(i int) bool { return list[i].Lo >= hi })
	return list[first:behind]
}

// bumpedParts is bumped for a piece and ranges that meet it.
func (n *node) bumpedParts(from int, list []api.Range, by int) *node {
	out := &node{}
	done := 0
	for _, g := range list {
		lo, hi := max(g.Lo-from, 0), min(g.Hi-from, n.cells)
		out = concat(out, n.part(done, lo))
		out = concat(out, n.part(lo, hi).raised(by))
		done = hi
	}
	return concat(out, n.part(done, n.cells))
}
