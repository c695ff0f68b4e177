package span_test

import (
	"slices"
	"testing"

	"redraft/api"
	"redraft/span"
)

func TestExamplesOfTheChapterNumbers(t *testing.T) {
	type answer struct {
		n int
		e api.Errno
	}
	is := func(n int, e api.Errno) answer { return answer{n, e} }
	a := list(2, 5, 6, 9)
	for i, c := range []struct{ got, want answer }{
		{is(span.Check(nil)), is(0, api.OK)},
		{is(span.Check(a)), is(0, api.OK)},
		{is(span.Check(list(2, 5, 5, 9))), is(1, api.ErrOrder)},
		{is(span.Check(list(2, 5, 7, 7, 3, 4))), is(1, api.ErrRange)},
		{is(span.Check(list(2, 5, 1, 0))), is(1, api.ErrRange)},
		{is(span.Check(list(0, end))), is(0, api.OK)},
		{is(span.Check(list(0, end+1))), is(0, api.ErrRange)},
		{is(span.Check(list(3, 9, 5, 5))), is(1, api.ErrRange)},
		{is(span.Count(a)), is(6, api.OK)},
		{is(span.Rank(a, 6)), is(3, api.OK)},
		{is(span.Rank(a, 7)), is(4, api.OK)},
		{is(span.Rank(a, end)), is(6, api.OK)},
		{is(span.Rank(a, end+1)), is(0, api.ErrPlace)},
		{is(span.Nth(a, 3)), is(6, api.OK)},
		{is(span.Nth(a, 6)), is(0, api.ErrPlace)},
	} {
		if c.got != c.want {
			t.Errorf("example %d: %v, want %v", i, c.got, c.want)
		}
	}
	if got := slices.Collect(span.Each(list(2, 4, 6, 7))); !slices.Equal(got, []int{2, 3, 6}) {
		t.Errorf("example of Each: %v", got)
	}
}

func TestExamplesOfTheChapterLists(t *testing.T) {
	type answer struct {
		a []api.Range
		e api.Errno
	}
	is := func(a []api.Range, e api.Errno) answer { return answer{a, e} }
	a := list(2, 5, 6, 9)
	for i, c := range []struct{ got, want answer }{
		{is(span.Make(list(6, 9, 2, 4, 4, 6, 8, 8))), is(list(2, 9), api.OK)},
		{is(span.Make(list(3, 3))), is(nil, api.OK)},
		{is(span.Make(list(4, 3))), is(nil, api.ErrRange)},
		{is(span.Union(list(0, 2, 5, 7), list(2, 5))), is(list(0, 7), api.OK)},
		{is(span.Meet(list(0, 4, 6, 9), list(3, 7))), is(list(3, 4, 6, 7), api.OK)},
		{is(span.Minus(list(0, 9), list(0, 1, 4, 5, 8, 12))), is(list(1, 4, 5, 8), api.OK)},
		{is(span.Union(list(5, 5), list(1, 0))), is(nil, api.ErrRange)},
		{is(span.Through(a, 3, 2)), is(list(2, 3, 5, 7, 8, 11), api.OK)},
		{is(span.Through(list(2, 5), 5, 7)), is(list(2, 5), api.OK)},
		{is(span.Through(list(2, 5), 2, 7)), is(list(9, 12), api.OK)},
		{is(span.Through(list(0, end), 4, 0)), is(list(0, end), api.OK)},
		{is(span.Through(list(0, end), end, 1)), is(list(0, end), api.OK)},
		{is(span.Through(list(0, end), end-1, 1)), is(nil, api.ErrGrow)},
		{is(span.Through(list(0, 2, end-1, end), 5, -1)), is(nil, api.ErrPlace)},
	} {
		sameList(t, c.got.a, c.got.e, c.want.a, c.want.e, "example %d", i)
	}
	for i, c := range []struct {
		a       []api.Range
		at, n   int
		old, in []api.Range
		e       api.Errno
	}{
		{list(2, 3, 5, 7, 8, 11), 3, 2, a, nil, api.OK},
		{list(2, 5), 3, 1, list(2, 4), list(0, 1), api.OK},
		{list(2, 9), 0, 20, nil, list(2, 9), api.OK},
		{list(2, 9), end, 1, nil, nil, api.ErrPlace},
	} {
		old, in, e := span.Back(c.a, c.at, c.n)
		sameList(t, old, e, c.old, c.e, "example %d of Back, old", i)
		sameList(t, in, e, c.in, c.e, "example %d of Back, in", i)
	}
}
