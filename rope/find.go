package rope

import "redraft/api"

func (n *node) cell(at int) api.Cell {
	if n.isPiece() {
		return api.Cell{Rune: n.runes[at], Hid: n.hid()}
	}
	left, right := n.sides()
	if at < left.cells {
		return left.cell(at)
	}
	return right.cell(at - left.cells)
}

func (n *node) totalOf(p int) int {
	if n.isPiece() {
		return p
	}
	left, right := n.sides()
	if p < left.shown() {
		return left.totalOf(p)
	}
	return left.cells + right.totalOf(p-left.shown())
}

func (n *node) shownBefore(c int) int {
	switch {
	case c == n.cells:
		return n.shown()
	case n.isPiece():
		return min(c, n.shown())
	}
	left, right := n.sides()
	if c <= left.cells {
		return left.shownBefore(c)
	}
	return left.shown() + right.shownBefore(c-left.cells)
}

// give hands the pieces of n, whose first cell has the total place from, to yield, as far as they lie among lo to hi-1, and tells whether it wants more.
func (n *node) give(from, lo, hi int, yield func(int, *node) bool) bool {
	lo, hi = max(lo, from), min(hi, from+n.cells)
	switch {
	case lo >= hi:
		return true
	case n.isPiece():
		return yield(lo, n.part(lo-from, hi-from))
	}
	left, right := n.sides()
	return left.give(from, lo, hi, yield) && right.give(from+left.cells, lo, hi, yield)
}
