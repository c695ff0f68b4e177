package span_test

import (
	"math/rand"
	"slices"
	"testing"

	"redraft/api"
	"redraft/span"
)

// holdSets: the three calls of a and b against their sets.
func holdSets(t *testing.T, a, b []api.Range) {
	t.Helper()
	s, u := setOf(a), setOf(b)
	both, either, first := set{}, set{}, set{}
	for q := range s {
		either[q] = true
		if u[q] {
			both[q] = true
		} else {
			first[q] = true
		}
	}
	for q := range u {
		either[q] = true
	}
	got, e := span.Union(a, b)
	holdBounded(t, "Union", got, e, listOf(either))
	got, e = span.Meet(a, b)
	holdBounded(t, "Meet", got, e, listOf(both))
	got, e = span.Minus(a, b)
	holdBounded(t, "Minus", got, e, listOf(first))
}

func holdBounded(t *testing.T, call string, got []api.Range, e api.Errno, want []api.Range) {
	t.Helper()
	f := api.OK
	if len(want) > api.MaxRanges {
		f = api.ErrMany
	}
	sameList(t, got, e, want, f, "P2.4: %s of %d places' ranges", call, len(want))
}

func TestP2_4EverySmallPair(t *testing.T) {
	for _, base := range []int{0, end - 7} {
		for x := range 128 {
			for y := range 128 {
				holdSets(t, listOf(smallSet(x, base)), listOf(smallSet(y, base)))
			}
		}
	}
}

func TestP2_4RandomLists(t *testing.T) {
	random := rand.New(rand.NewSource(4))
	draw := func(n, step int) []api.Range {
		var out []api.Range
		for lo := random.Intn(step); len(out) < n; {
			hi := lo + 1 + random.Intn(step)
			out = append(out, api.Range{Lo: lo, Hi: hi})
			lo = hi + 1 + random.Intn(step)
		}
		return out
	}
	for range 200 {
		holdSets(t, draw(random.Intn(40), 1+random.Intn(6)), draw(random.Intn(40), 1+random.Intn(6)))
	}
	holdSets(t, draw(api.MaxRanges, 3), draw(api.MaxRanges, 3))
	holdSets(t, draw(api.MaxRanges/2, 6), draw(api.MaxRanges, 3))
}

// Answers of just as many ranges as there may be, and of one more.
func TestP2_4MostRanges(t *testing.T) {
	full := teeth(0, api.MaxRanges)
	holdSets(t, full, full)
	holdSets(t, full, nil)
	holdSets(t, full[1:], list(0, 1))
	holdSets(t, full, list(2*api.MaxRanges, 2*api.MaxRanges+1))
	holdSets(t, full, list(2*api.MaxRanges-1, 2*api.MaxRanges+1))
	holdSets(t, full[:api.MaxRanges/2], teeth(api.MaxRanges, api.MaxRanges/2))
	holdSets(t, full[:api.MaxRanges/2], teeth(api.MaxRanges, api.MaxRanges/2+1))
	if got, e := span.Union(full, teeth(1, api.MaxRanges)); e != api.OK || !slices.Equal(got, list(0, 2*api.MaxRanges)) {
		t.Errorf("P2.4: Union of two combs that fill each other's gaps = %v, %d", short(got), e)
	}
	for _, at := range []int{0, 1} {
		want, f := teeth(1, api.MaxRanges), api.OK
		want[api.MaxRanges-1].Hi = end
		if at == 1 {
			f = api.ErrMany
		}
		got, e := span.Minus(list(0, end), teeth(at, api.MaxRanges))
		sameList(t, got, e, want, f, "P2.4: all places but the comb at %d", at)
	}
	// Each range of a ends in one of b and begins in the one ahead: two lists of n ranges meet in 2n-1.
	for _, n := range []int{api.MaxRanges / 2, api.MaxRanges/2 + 1} {
		var a, b, want []api.Range
		for i := range n {
			a = append(a, api.Range{Lo: 8 * i, Hi: 8*i + 6})
			b = append(b, api.Range{Lo: 8*i + 4, Hi: 8*i + 10})
			want = append(want, api.Range{Lo: 8*i + 4, Hi: 8*i + 6}, api.Range{Lo: 8*i + 8, Hi: 8*i + 10})
		}
		got, e := span.Meet(a, b)
		holdBounded(t, "Meet", got, e, want[:2*n-1])
	}
}

func TestP2_11OneListASet(t *testing.T) {
	var lists [][]api.Range
	for _, base := range []int{0, end - 6} {
		for bits := range 64 {
			lists = append(lists, listOf(smallSet(bits, base)))
		}
	}
	lists = append(lists, teeth(0, api.MaxRanges), list(0, end))
	for _, a := range lists {
		got, e := span.Make(a)
		sameList(t, got, e, a, api.OK, "P2.11: Make(%v)", short(a))
		for _, b := range lists {
			x, e := span.Minus(a, b)
			y, f := span.Minus(b, a)
			alike := e == api.OK && f == api.OK && len(x) == 0 && len(y) == 0
			if alike != slices.Equal(a, b) {
				t.Errorf("P2.11: Minus of %v and %v: %v, %d and %v, %d", short(a), short(b), short(x), e, short(y), f)
			}
		}
	}
}
