package span_test

import (
	"math"
	"math/rand"
	"slices"
	"testing"

	"redraft/api"
	"redraft/span"
)

func holdCheck(t *testing.T, a []api.Range) {
	t.Helper()
	at, e := span.Check(a)
	if wat, we := wantCheck(a); at != wat || e != we {
		t.Errorf("P2.2: Check(%v) = %d, %d, want %d, %d", short(a), at, e, wat, we)
	}
}

// Every row of up to three ranges with these ends: the edges of a range for itself, and of one behind another.
func TestP2_2EdgesOfCheck(t *testing.T) {
	holdCheck(t, nil)
	holdCheck(t, []api.Range{})
	var ranges []api.Range
	ends := []int{math.MinInt, -1, 0, 1, 2, 3, 4, end - 1, end, end + 1, math.MaxInt}
	for _, lo := range ends {
		for _, hi := range ends {
			ranges = append(ranges, api.Range{Lo: lo, Hi: hi})
		}
	}
	for _, r := range ranges {
		holdCheck(t, []api.Range{r})
		for _, s := range ranges {
			holdCheck(t, []api.Range{r, s})
			for _, u := range ranges[len(ranges)/3:] {
				holdCheck(t, []api.Range{r, s, u})
			}
		}
	}
}

func TestP2_2MostRanges(t *testing.T) {
	full := teeth(0, api.MaxRanges)
	holdCheck(t, full)
	holdCheck(t, append(full[:api.MaxRanges:api.MaxRanges], api.Range{Lo: end - 1, Hi: end}))
	holdCheck(t, append(list(9, 8), full...))
	full[api.MaxRanges-1].Lo = full[api.MaxRanges-2].Hi
	if at, e := span.Check(full); at != api.MaxRanges-1 || e != api.ErrOrder {
		t.Errorf("P2.2: Check of a full list whose last range touches = %d, %d", at, e)
	}
}

func TestP2_3MakeOfAnyParts(t *testing.T) {
	random := rand.New(rand.NewSource(3))
	for range 20000 {
		base := []int{0, 1000, end - 12}[random.Intn(3)]
		var parts []api.Range
		for range random.Intn(7) {
			lo := random.Intn(13)
			parts = append(parts, api.Range{Lo: base + lo, Hi: base + lo + random.Intn(13-lo)})
		}
		got, e := span.Make(parts)
		sameList(t, got, e, listOf(setOf(parts)), api.OK, "P2.3: Make(%v)", parts)
	}
}

func TestP2_3WrongParts(t *testing.T) {
	full := teeth(0, api.MaxRanges)
	backwards := slices.Clone(full)
	slices.Reverse(backwards)
	for _, c := range []struct {
		parts, want []api.Range
		e           api.Errno
	}{
		{nil, nil, api.OK}, {[]api.Range{}, nil, api.OK}, {list(0, 0, end, end, 7, 7), nil, api.OK}, {list(1, end, 0, 1), list(0, end), api.OK},
		{list(-1, -1), nil, api.ErrRange}, {list(end+1, end+1), nil, api.ErrRange}, {list(0, end+1), nil, api.ErrRange}, {list(-1, 2), nil, api.ErrRange}, {list(2, 5, 4, 3), nil, api.ErrRange}, {list(math.MinInt, math.MinInt), nil, api.ErrRange}, {list(math.MaxInt, math.MaxInt), nil, api.ErrRange}, {list(0, math.MaxInt), nil, api.ErrRange}, {list(math.MaxInt, 0), nil, api.ErrRange},
		{full, full, api.OK}, {backwards, full, api.OK},
		{append(list(3, 3), full...), nil, api.ErrMany}, {append(list(2, 1), full...), nil, api.ErrMany}, {append(list(2, 1), full[1:]...), nil, api.ErrRange},
	} {
		got, e := span.Make(c.parts)
		sameList(t, got, e, c.want, c.e, "P2.3: Make(%v)", short(c.parts))
	}
}

func TestP2_5to7Counts(t *testing.T) {
	for _, base := range []int{0, 1, 500, end - 8} {
		for bits := range 256 {
			s := smallSet(bits, base)
			a := listOf(s)
			if n, e := span.Count(a); n != len(s) || e != api.OK {
				t.Errorf("P2.5: Count(%v) = %d, %d", a, n, e)
			}
			k := 0
			for q := max(base-1, 0); q <= min(base+9, end); q++ {
				if n, e := span.Rank(a, q); n != k || e != api.OK {
					t.Errorf("P2.6: Rank(%v, %d) = %d, %d, want %d", a, q, n, e, k)
				}
				if !s[q] {
					continue
				}
				if p, e := span.Nth(a, k); p != q || e != api.OK {
					t.Errorf("P2.7: Nth(%v, %d) = %d, %d, want %d", a, k, p, e, q)
				}
				k++
			}
			holdBeside(t, a, len(s))
		}
	}
}

// holdBeside: the numbers beside the bounds of Rank and Nth.
func holdBeside(t *testing.T, a []api.Range, count int) {
	t.Helper()
	for _, q := range []int{-1, end + 1, math.MinInt, math.MaxInt} {
		if n, e := span.Rank(a, q); n != 0 || e != api.ErrPlace {
			t.Errorf("P2.6: Rank(%v, %d) = %d, %d, want ErrPlace", a, q, n, e)
		}
	}
	for _, k := range []int{-1, count, count + 1, end, math.MinInt, math.MaxInt} {
		if q, e := span.Nth(a, k); q != 0 || e != api.ErrPlace {
			t.Errorf("P2.7: Nth(%v, %d) = %d, %d, want ErrPlace", a, k, q, e)
		}
	}
}

func TestP2_5to7WholeRow(t *testing.T) {
	all := list(0, end)
	n, e := span.Count(all)
	r, f := span.Rank(all, end)
	q, g := span.Nth(all, end-1)
	if n != end || r != end || q != end-1 || e != api.OK || f != api.OK || g != api.OK {
		t.Errorf("P2.5 to P2.7: all places: Count %d, %d; Rank %d, %d; Nth %d, %d", n, e, r, f, q, g)
	}
	full := teeth(1, api.MaxRanges)
	for _, k := range []int{0, 1, 12345, api.MaxRanges - 1} {
		q, _ := span.Nth(full, k)
		if r, _ := span.Rank(full, q); q != 1+2*k || r != k {
			t.Errorf("P2.7: Nth(full, %d) = %d, its Rank %d", k, q, r)
		}
	}
	holdBeside(t, full, api.MaxRanges)
}
