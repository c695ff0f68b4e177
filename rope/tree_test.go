package rope

import (
	"math/rand"
	"strings"
	"testing"

	"redraft/api"
)

// The one test that looks inside: what a node's sums tell must be so, or an answer that hangs on them is right by chance.

// counted: the sums of n, told from its cells and its shape alone; add is what has yet to come to n's counters. All nodes are held against the tree's rules on the way.
func counted(t *testing.T, n *node, add int) sums {
	t.Helper()
	own := n.sums.raised(add)
	if n.isPiece() {
		if len(n.runes) != n.cells || n.cells > longest || n.left != nil || n.right != nil {
			t.Fatalf("a piece of %d runes: %+v", len(n.runes), n.sums)
		}
		if want := piece(n.runes, n.hid()+add).sums; own != want {
			t.Fatalf("a piece with the sums %+v, want %+v", own, want)
		}
		return own
	}
	l := counted(t, n.left, add+n.still)
	r := counted(t, n.right, add+n.still)
	if n.runes != nil || l.cells == 0 || r.cells == 0 || l.high > r.high+1 || r.high > l.high+1 {
		t.Fatalf("a node of the sides %+v and %+v", l, r)
	}
	if l.last.fits(r.first) {
		t.Fatalf("two pieces that should be one: %+v, %+v", l.last, r.first)
	}
	if own != l.with(r) {
		t.Fatalf("a node with the sums %+v, want %+v", own, l.with(r))
	}
	return own
}

// shownOf: the visible cells, counted one by one.
func shownOf(r *Rope) int {
	n := 0
	for _, c := range r.Cells(0) {
		if c.Hid == 0 {
			n++
		}
	}
	return n
}

// someRanges: a few ranges of a row of n cells, of any lengths.
func someRanges(rnd *rand.Rand, n int) []api.Range {
	var out []api.Range
	few := 1 + rnd.Intn(8)
	for at := 0; ; {
		lo := at + rnd.Intn(1+n/few)
		hi := lo + 1 + rnd.Intn(1+n/few)
		if hi > n {
			return out
		}
		out = append(out, api.Range{Lo: lo, Hi: hi})
		at = hi + 1
	}
}

// P3.14: behind every call every node is balanced, tells its sums truly, and no two pieces stand where one could.
func TestTree(t *testing.T) {
	for seed := range int64(6) {
		rnd := rand.New(rand.NewSource(seed))
		r := New()
		var hidden [][]api.Range
		for range 500 {
			at := rnd.Intn(r.Total() + 1)
			switch k := rnd.Intn(8); {
			case k < 2:
				r.Insert(at, strings.Repeat("x", 1+rnd.Intn(3)), rnd.Intn(2))
			case k < 3:
				r.Insert(at, strings.Repeat("y", rnd.Intn(80)), rnd.Intn(2))
			case k < 6:
				hidden = append(hidden, someRanges(rnd, r.Total()))
				r.Bump(hidden[len(hidden)-1], 1)
			case len(hidden) > 0: // a list that was bumped up can mostly be bumped down
				r.Bump(hidden[rnd.Intn(len(hidden))], -1)
			}
			if counted(t, r.root, 0).shown() != shownOf(r) {
				t.Fatalf("Shown() = %d of %d visible cells", r.Shown(), shownOf(r))
			}
		}
	}
}
