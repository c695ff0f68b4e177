package span_test

import (
	"math"
	"slices"
	"testing"

	"redraft/api"
	"redraft/span"
)

// lists: a call that answers lists, with all of them.
type lists func(a, b []api.Range, at, n int) ([][]api.Range, api.Errno)

func one(a []api.Range, e api.Errno) ([][]api.Range, api.Errno) { return [][]api.Range{a}, e }

func listCalls() map[string]lists {
	return map[string]lists{
		"Make":    func(a, _ []api.Range, _, _ int) ([][]api.Range, api.Errno) { return one(span.Make(a)) },
		"Union":   func(a, b []api.Range, _, _ int) ([][]api.Range, api.Errno) { return one(span.Union(a, b)) },
		"Meet":    func(a, b []api.Range, _, _ int) ([][]api.Range, api.Errno) { return one(span.Meet(a, b)) },
		"Minus":   func(a, b []api.Range, _, _ int) ([][]api.Range, api.Errno) { return one(span.Minus(a, b)) },
		"Through": func(a, _ []api.Range, at, n int) ([][]api.Range, api.Errno) { return one(span.Through(a, at, n)) },
		"Back": func(a, _ []api.Range, at, n int) ([][]api.Range, api.Errno) {
			old, in, e := span.Back(a, at, n)
			return [][]api.Range{old, in}, e
		},
	}
}

// roomy: a copy of a with spare room behind it that is not zero.
func roomy(a []api.Range) []api.Range {
	whole := append(slices.Clone(a), list(90, 91, 92, 93, 94, 95)...)
	return whole[:len(a)]
}

// scribble: writes all over a list, its spare room too.
func scribble(a []api.Range) {
	whole := a[:cap(a)]
	for i := range whole {
		whole[i] = api.Range{Lo: -7, Hi: -8}
	}
}

// Every answer is scribbled over, and neither an argument nor another answer may show it.
func TestP2_1NewMemory(t *testing.T) {
	for name, call := range listCalls() {
		for _, pair := range [][2][]api.Range{
			{list(2, 5, 6, 9), nil}, {nil, list(2, 5, 6, 9)}, {list(2, 5, 6, 9), list(3, 7)}, {list(2, 5), list(2, 5)}, {list(0, 20), list(50, 60)}, {nil, nil}, {list(9, 2), list(1, 2)},
		} {
			for _, in := range [][2]int{{0, 0}, {3, 0}, {3, 2}, {20, 5}, {0, 40}, {-1, 1}} {
				a, b := roomy(pair[0]), roomy(pair[1])
				wasA, wasB := slices.Clone(a[:cap(a)]), slices.Clone(b[:cap(b)])
				got, _ := call(a, b, in[0], in[1])
				for i := range got {
					ahead := make([][]api.Range, len(got))
					for j := range got {
						ahead[j] = slices.Clone(got[j][:cap(got[j])])
					}
					scribble(got[i])
					for j := range got {
						if j != i && !slices.Equal(got[j][:cap(got[j])], ahead[j]) {
							t.Errorf("P2.1: %s: two answers share memory", name)
						}
					}
				}
				if !slices.Equal(a[:cap(a)], wasA) || !slices.Equal(b[:cap(b)], wasB) {
					t.Errorf("P2.1: %s(%v, %v, %v) left %v, %v", name, pair[0], pair[1], in, a, b)
				}
				again, _ := call(pair[0], pair[1], in[0], in[1])
				twice, _ := call(pair[0], pair[1], in[0], in[1])
				for i := range again {
					if !slices.Equal(again[i], twice[i]) || len(again[i]) != len(got[i]) {
						t.Errorf("P2.1: %s answers otherwise the second time", name)
					}
				}
			}
		}
	}
}

func TestP2_1ArgumentsStay(t *testing.T) {
	a := roomy(list(6, 9, 2, 4, 4, 6, 8, 8))
	was := slices.Clone(a[:cap(a)])
	span.Check(a)
	span.Make(a)
	if !slices.Equal(a[:cap(a)], was) {
		t.Errorf("P2.1: the parts are %v now", a)
	}
	b := roomy(list(2, 5, 6, 9))
	was = slices.Clone(b[:cap(b)])
	span.Count(b)
	span.Rank(b, 7)
	span.Nth(b, 4)
	for range span.Each(b) {
	}
	if !slices.Equal(b[:cap(b)], was) {
		t.Errorf("P2.1: the list is %v now", b)
	}
}

// Errors beside each other: a's, then b's, then ErrPlace.
func TestP2_1WhichErrorComesFirst(t *testing.T) {
	for _, w := range wrongLists() {
		for _, x := range append(wrongLists(), wrongList{a: list(1, 2)}) {
			for name, call := range map[string]func(a, b []api.Range) ([]api.Range, api.Errno){"Union": span.Union, "Meet": span.Meet, "Minus": span.Minus} {
				got, e := call(w.a, x.a)
				sameList(t, got, e, nil, w.e, "P2.1: %s(%v, %v)", name, short(w.a), short(x.a))
				got, e = call(list(1, 2), x.a)
				if x.e != api.OK {
					sameList(t, got, e, nil, x.e, "P2.1: %s([1,2), %v)", name, short(x.a))
				}
			}
		}
		for _, n := range []int{0, 1, -1, end + 1, math.MinInt, math.MaxInt} {
			got, e := span.Through(w.a, n, -n)
			sameList(t, got, e, nil, w.e, "P2.1: Through(%v, %d, ..)", short(w.a), n)
			old, in, e := span.Back(w.a, n, n)
			sameList(t, old, e, nil, w.e, "P2.1: Back(%v, %d, ..), old", short(w.a), n)
			sameList(t, in, e, nil, w.e, "P2.1: Back(%v, %d, ..), in", short(w.a), n)
			if k, e := span.Rank(w.a, n); k != 0 || e != w.e {
				t.Errorf("P2.1: Rank(%v, %d) = %d, %d, want %d", short(w.a), n, k, e, w.e)
			}
			if q, e := span.Nth(w.a, n); q != 0 || e != w.e {
				t.Errorf("P2.1: Nth(%v, %d) = %d, %d, want %d", short(w.a), n, q, e, w.e)
			}
		}
		if n, e := span.Count(w.a); n != 0 || e != w.e {
			t.Errorf("P2.1: Count(%v) = %d, %d, want %d", short(w.a), n, e, w.e)
		}
	}
	got, e := span.Through(list(0, end), 1, -1)
	sameList(t, got, e, nil, api.ErrPlace, "P2.1: ErrPlace ahead of ErrGrow")
	got, e = span.Through(list(0, end), 1, end+1)
	sameList(t, got, e, nil, api.ErrPlace, "P2.1: ErrPlace ahead of ErrGrow")
}

func TestP2_1NilAndEmptyAreOne(t *testing.T) {
	for name, call := range listCalls() {
		for _, other := range [][]api.Range{nil, list(2, 5)} {
			for _, at := range []int{0, 3, end, -1} {
				x, e := call(nil, other, at, 0)
				y, f := call([]api.Range{}, other, at, 0)
				for i := range x {
					sameList(t, y[i], f, x[i], e, "P2.1: %s of the list of no places", name)
				}
			}
		}
	}
}
