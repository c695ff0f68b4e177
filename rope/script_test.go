package rope_test

import (
	"fmt"
	"math/rand"
	"strings"
	"testing"

	"redraft/api"
	"redraft/rope"
)

// place: where the n-th insert of a script goes in a rope of total cells.
type place func(rnd *rand.Rand, total int) int

func places() map[string]place {
	return map[string]place{
		"front":  func(_ *rand.Rand, total int) int { return 0 },
		"end":    func(_ *rand.Rand, total int) int { return total },
		"middle": func(_ *rand.Rand, total int) int { return total / 2 },
		"random": func(rnd *rand.Rand, total int) int { return rnd.Intn(total + 1) },
	}
}

// P3.14: the bounds behind every call of long scripts of inserts alone, single runes and longer texts, of one counter and of several.
func TestKeptBehindInserts(t *testing.T) {
	for name, at := range places() {
		for _, length := range []int{1, 3, 31, 33, 100} {
			for _, counters := range []int{1, 2, 5} {
				rnd := rand.New(rand.NewSource(int64(length*10 + counters)))
				r := rope.New()
				for i := range 400 {
					text := strings.Repeat("x", 1+rnd.Intn(length))
					if e := r.Insert(at(rnd, r.Total()), text, rnd.Intn(counters)); e != api.OK {
						t.Fatalf("%s: Insert = %d", name, e)
					}
					kept(t, r, len(r.Runs()), fmt.Sprintf("%s, insert %d of up to %d cells, %d counters", name, i, length, counters))
				}
			}
		}
	}
}

// P3.14: one long stretch, hidden and shown cell by cell, from its front, from its end and criss-cross, so that pieces are cut to bits and have to grow together again.
func TestKeptBehindBumps(t *testing.T) {
	const n = 600
	for name, at := range map[string]func(i int) int{
		"front": func(i int) int { return i },
		"end":   func(i int) int { return n - 1 - i },
		"cross": func(i int) int { return i * 7 % n },
	} {
		r := made(t, api.Run{Text: strings.Repeat("x", n)})
		for _, by := range []int{1, 1, -1, -1, 1, -1} {
			for i := range n {
				if e := r.Bump(list(at(i), at(i)+1), by); e != api.OK {
					t.Fatalf("%s: Bump = %d", name, e)
				}
				kept(t, r, len(r.Runs()), fmt.Sprintf("%s, cell %d by %d", name, at(i), by))
			}
		}
		sameCells(t, r, cellsOf(strings.Repeat("x", n), 0), name)
	}
}

// P3.14: what is refused and what is asked moves nothing in the tree, nor does what has nothing to do.
func TestKeptAsItIs(t *testing.T) {
	rnd := rand.New(rand.NewSource(3))
	r, w := rope.New(), row{}
	for range 200 {
		r, w = randomStep(t, rnd, r, w)
		h, k := r.Height(), r.Leaves()
		for range 20 {
			at := rnd.Intn(len(w) + 1)
			r.Insert(at, "", 0)
			r.Insert(at, "x\xff", 0)
			r.Insert(at, "x", -1)
			r.Bump(nil, 1)
			r.Bump(list(0, len(w)+1), 1)
			sameCell(t, r, w, at, "asked")
			sameTotalOf(t, r, w, at, "asked")
			sameShownBefore(t, r, w, at, "asked")
		}
		if r.Height() != h || r.Leaves() != k {
			t.Fatalf("Height() = %d, Leaves() = %d, were %d, %d", r.Height(), r.Leaves(), h, k)
		}
	}
}

// P3.4 to P3.14: long scripts of everything, held against the row.
func TestScripts(t *testing.T) {
	for seed := range int64(12) {
		rnd := rand.New(rand.NewSource(seed))
		r, w := rope.New(), row{}
		for i := range 300 {
			r, w = randomStep(t, rnd, r, w)
			name := fmt.Sprintf("seed %d, step %d", seed, i)
			sameCells(t, r, w, name)
			if i%10 == 0 {
				n := len(w)
				sameAnswers(t, r, w, []int{-1, 0, n, n + 1, rnd.Intn(n + 1), rnd.Intn(n + 1), len(w.visible()), rnd.Intn(len(w.visible()) + 1)}, name)
				sameRest(t, r, w, rnd.Intn(n+1), name)
			}
		}
	}
}

// randomStep: r and w behind one step more; now and then r is a rope anew, by its runs or by Copy.
func randomStep(t *testing.T, rnd *rand.Rand, r *rope.Rope, w row) (*rope.Rope, row) {
	t.Helper()
	switch k := rnd.Intn(20); {
	case k == 0:
		return made(t, r.Runs()...), w
	case k == 1:
		return r.Copy(), w
	case k < 8:
		return r, randomInsert(t, rnd, r, w)
	}
	return r, randomBump(t, rnd, r, w)
}

func randomInsert(t *testing.T, rnd *rand.Rand, r *rope.Rope, w row) row {
	t.Helper()
	at, hid := rnd.Intn(len(w)+1), rnd.Intn(3)
	text := strings.Repeat(string([]rune("abcdeé\n😀")[rnd.Intn(8)]), 1+rnd.Intn(2))
	if rnd.Intn(8) == 0 {
		text = strings.Repeat(text, 20)
	}
	want, f := w.insert(at, text, hid)
	if e := r.Insert(at, text, hid); e != f {
		t.Fatalf("Insert(%d, %q, %d) = %d, want %d", at, text, hid, e, f)
	}
	return want
}

func randomBump(t *testing.T, rnd *rand.Rand, r *rope.Rope, w row) row {
	t.Helper()
	by := 1 - 2*rnd.Intn(2)
	few := 1 + rnd.Intn(12)
	on := false
	a := listOf(len(w), func(q int) bool {
		if rnd.Intn(1+len(w)/few) == 0 {
			on = !on
		}
		return on && (by > 0 && w[q].Hid < 4 || by < 0 && w[q].Hid > 0)
	})
	if rnd.Intn(8) == 0 && len(w) > 0 { // any one stretch, refused or not
		lo := rnd.Intn(len(w))
		a = list(lo, lo+1+rnd.Intn(len(w)-lo))
	}
	want, f := w.bump(a, by)
	if e := r.Bump(a, by); e != f {
		t.Fatalf("Bump(%v, %d) = %d, want %d", a, by, e, f)
	}
	return want
}
