package span_test

import (
	"math"
	"slices"
	"testing"

	"redraft/api"
	"redraft/span"
)

// wantThrough: P2.8 place by place, of a list that is normal.
func wantThrough(s set, at, n int) (set, api.Errno) {
	if at < 0 || n < 0 || at > api.MaxPlace || n > api.MaxPlace {
		return nil, api.ErrPlace
	}
	grown := false
	out := s.moved(func(q int) (int, bool) {
		if q < at {
			return q, true
		}
		grown = grown || q+n >= api.MaxPlace
		return q + n, true
	})
	if grown {
		return nil, api.ErrGrow
	}
	return out, api.OK
}

// wantBack: P2.9 place by place; at and n are small enough for their sum.
func wantBack(s set, at, n int) (old, in set, e api.Errno) {
	if at < 0 || n < 0 || at > api.MaxPlace || n > api.MaxPlace || at+n > api.MaxPlace {
		return nil, nil, api.ErrPlace
	}
	old = s.moved(func(q int) (int, bool) {
		if q < at {
			return q, true
		}
		return q - n, q >= at+n
	})
	in = s.moved(func(q int) (int, bool) { return q - at, at <= q && q < at+n })
	return old, in, api.OK
}

// eachInsert: lists of few places at both ends of the row, with the inserts in and around them.
func eachInsert(do func(s set, a []api.Range, at, n int)) {
	for _, base := range []int{0, 5, end - 6} {
		for bits := range 64 {
			s := smallSet(bits, base)
			a := listOf(s)
			for at := base - 6; at <= base+8; at++ {
				for n := -1; n <= 8; n++ {
					do(s, a, at, n)
				}
				for _, n := range []int{end - 9, end - 6, end - 5, end - 1, end, end + 1} {
					do(s, a, at, n)
				}
			}
			for _, n := range []int{0, 1, 3, end - 1, end} {
				do(s, a, 0, n)
				do(s, a, end, n)
			}
		}
	}
}

func TestP2_8EveryInsert(t *testing.T) {
	eachInsert(func(s set, a []api.Range, at, n int) {
		want, f := wantThrough(s, at, n)
		got, e := span.Through(a, at, n)
		sameList(t, got, e, listOf(want), f, "P2.8: Through(%v, %d, %d)", a, at, n)
	})
}

func TestP2_9EveryInsert(t *testing.T) {
	eachInsert(func(s set, a []api.Range, at, n int) {
		wold, win, f := wantBack(s, at, n)
		old, in, e := span.Back(a, at, n)
		sameList(t, old, e, listOf(wold), f, "P2.9: Back(%v, %d, %d), old", a, at, n)
		sameList(t, in, e, listOf(win), f, "P2.9: Back(%v, %d, %d), in", a, at, n)
	})
}

func TestP2_8and9NumbersBesideTheirBounds(t *testing.T) {
	far := []int{math.MinInt, math.MinInt + 1, -1, 0, 1, end, end + 1, math.MaxInt - end, math.MaxInt - 1, math.MaxInt}
	for _, a := range [][]api.Range{nil, list(2, 5), list(0, end)} {
		for _, at := range far {
			for _, n := range far {
				if at < 0 || n < 0 || at > end || n > end {
					got, e := span.Through(a, at, n)
					sameList(t, got, e, nil, api.ErrPlace, "P2.8: Through(%v, %d, %d)", a, at, n)
					old, in, e := span.Back(a, at, n)
					sameList(t, old, e, nil, api.ErrPlace, "P2.9: Back(%v, %d, %d), old", a, at, n)
					sameList(t, in, e, nil, api.ErrPlace, "P2.9: Back(%v, %d, %d), in", a, at, n)
				}
			}
		}
	}
}

// A full list that an insert splits, or does not; and one that Back joins.
func TestP2_8and9MostRanges(t *testing.T) {
	full := list(0, 3)
	for i := range api.MaxRanges - 1 {
		full = append(full, api.Range{Lo: 4 + 2*i, Hi: 5 + 2*i})
	}
	shifted := func(by int) []api.Range {
		out := slices.Clone(full)
		for i := range out {
			out[i].Lo, out[i].Hi = out[i].Lo+by, out[i].Hi+by
		}
		return out
	}
	got, e := span.Through(full, 1, 1)
	sameList(t, got, e, nil, api.ErrMany, "P2.8: Through(full, 1, 1)")
	got, e = span.Through(full, 1, 0)
	sameList(t, got, e, full, api.OK, "P2.8: Through(full, 1, 0)")
	got, e = span.Through(full, 0, 7)
	sameList(t, got, e, shifted(7), api.OK, "P2.8: Through(full, 0, 7)")
	got, e = span.Through(full, 3, 1)
	want := shifted(1)
	want[0] = full[0]
	sameList(t, got, e, want, api.OK, "P2.8: Through(full, 3, 1)")
	got, e = span.Through(full, 1, end)
	sameList(t, got, e, nil, api.ErrGrow, "P2.1: Through(full, 1, end): ErrGrow ahead of ErrMany")

	old, in, e := span.Back(full, 1, 1)
	want = shifted(-1)
	want[0] = api.Range{Lo: 0, Hi: 2}
	sameList(t, old, e, want, api.OK, "P2.9: Back(full, 1, 1), old")
	sameList(t, in, e, list(0, 1), api.OK, "P2.9: Back(full, 1, 1), in")
	got, e = span.Through(old, 1, 1)
	sameList(t, got, e, nil, api.ErrMany, "P2.12: Through of what Back gave")

	old, in, e = span.Back(full, 0, end)
	sameList(t, old, e, nil, api.OK, "P2.9: Back(full, 0, end), old")
	sameList(t, in, e, full, api.OK, "P2.9: Back(full, 0, end), in")
}

func TestP2_12ThroughAndBack(t *testing.T) {
	eachInsert(func(_ set, a []api.Range, at, n int) {
		if th, e := span.Through(a, at, n); e == api.OK {
			old, in, e := span.Back(th, at, n)
			f := api.OK
			if at+n > end {
				f = api.ErrPlace
			}
			sameList(t, old, e, a, f, "P2.12: Back of Through(%v, %d, %d), old", a, at, n)
			sameList(t, in, e, nil, f, "P2.12: Back of Through(%v, %d, %d), in", a, at, n)
		}
		old, in, e := span.Back(a, at, n)
		if e != api.OK {
			return
		}
		th, e := span.Through(old, at, n)
		if e != api.OK {
			t.Errorf("P2.12: Through of Back(%v, %d, %d): %d", a, at, n, e)
		}
		up, _ := span.Through(in, 0, at)
		got, e := span.Union(th, up)
		sameList(t, got, e, a, api.OK, "P2.12: Through of Back(%v, %d, %d) and the cells put in", a, at, n)
	})
}

func TestP2_13AnInsertCarriesTheAlgebra(t *testing.T) {
	calls := []func(a, b []api.Range) ([]api.Range, api.Errno){span.Union, span.Meet, span.Minus}
	for i, call := range calls {
		for _, base := range []int{0, end - 9} {
			for x := range 64 {
				for y := range 64 {
					for at := base; at <= base+6; at += 2 {
						for _, n := range []int{0, 1, 3} {
							a, b := listOf(smallSet(x, base)), listOf(smallSet(y, base))
							c, _ := call(a, b)
							got, e := span.Through(c, at, n)
							a, _ = span.Through(a, at, n)
							b, _ = span.Through(b, at, n)
							want, f := call(a, b)
							sameList(t, got, e, want, f, "P2.13: call %d through (%d, %d)", i, at, n)
						}
					}
				}
			}
		}
	}
}
