package span_test

import (
	"maps"
	"math"
	"slices"
	"testing"

	"redraft/api"
)

// The oracle knows sets of places only: a call's answer is worked out place by place, as the chapter's words say it, and made a list at the end.

const end = api.MaxPlace

type set map[int]bool

// list: the ranges whose ends are the numbers, two by two.
func list(ends ...int) []api.Range {
	var out []api.Range
	for i := 0; i < len(ends); i += 2 {
		out = append(out, api.Range{Lo: ends[i], Hi: ends[i+1]})
	}
	return out
}

// teeth: n ranges of one place each, the first at at, every second place.
func teeth(at, n int) []api.Range {
	var out []api.Range
	for i := range n {
		out = append(out, api.Range{Lo: at + 2*i, Hi: at + 2*i + 1})
	}
	return out
}

func setOf(a []api.Range) set {
	s := set{}
	for _, r := range a {
		for q := r.Lo; q < r.Hi; q++ {
			s[q] = true
		}
	}
	return s
}

// listOf: the one list of a set.
func listOf(s set) []api.Range {
	var out []api.Range
	for _, q := range slices.Sorted(maps.Keys(s)) {
		if !s[q-1] {
			out = append(out, api.Range{Lo: q})
		}
		out[len(out)-1].Hi = q + 1
	}
	return out
}

// smallSet: the places from base on whose bits are set in bits.
func smallSet(bits, base int) set {
	s := set{}
	for q := base; bits > 0; q, bits = q+1, bits>>1 {
		if bits&1 == 1 {
			s[q] = true
		}
	}
	return s
}

// moved: the set of what to answers for each place for which it answers true.
func (s set) moved(to func(q int) (int, bool)) set {
	out := set{}
	for q := range s {
		if p, ok := to(q); ok {
			out[p] = true
		}
	}
	return out
}

func wantCheck(a []api.Range) (int, api.Errno) {
	if len(a) > api.MaxRanges {
		return api.MaxRanges, api.ErrMany
	}
	for i := range a {
		if a[i].Lo < 0 || a[i].Hi > api.MaxPlace || a[i].Lo >= a[i].Hi {
			return i, api.ErrRange
		}
		if i > 0 && !(a[i].Lo > a[i-1].Hi) {
			return i, api.ErrOrder
		}
	}
	return 0, api.OK
}

// sameList: is the answer (got, e) the list want, or the error f and a list of length 0?
func sameList(t *testing.T, got []api.Range, e api.Errno, want []api.Range, f api.Errno, form string, args ...any) {
	t.Helper()
	if f != api.OK {
		want = nil
	}
	if e != f || !slices.Equal(got, want) {
		t.Errorf(form+" = %v, %d, want %v, %d", append(args, short(got), e, short(want), f)...)
	}
}

// short: so much of a list as one can read.
func short(a []api.Range) []api.Range {
	return a[:min(len(a), 8)]
}

// wrongLists: lists that are not normal, each with its error.
func wrongLists() []wrongList {
	return []wrongList{
		{list(5, 5), api.ErrRange}, {list(4, 3), api.ErrRange}, {list(-1, 3), api.ErrRange}, {list(0, end+1), api.ErrRange}, {list(end, end), api.ErrRange},
		{list(math.MinInt, math.MaxInt), api.ErrRange}, {list(math.MaxInt, math.MinInt), api.ErrRange}, {list(0, 1, 3, 3), api.ErrRange}, {list(3, 9, 5, 5), api.ErrRange},
		{list(2, 5, 5, 9), api.ErrOrder}, {list(2, 5, 4, 9), api.ErrOrder}, {list(2, 5, 0, 1), api.ErrOrder}, {list(2, 5, 2, 5), api.ErrOrder}, {list(3, 4, 2, 3, 9, 8), api.ErrOrder},
		{teeth(0, api.MaxRanges+1), api.ErrMany}, {append(list(1, 0), teeth(4, api.MaxRanges)...), api.ErrMany},
	}
}

type wrongList struct {
	a []api.Range
	e api.Errno
}
