package rope_test

import (
	"fmt"
	"slices"
	"strings"
	"testing"

	"redraft/api"
	"redraft/rope"
)

// P3.2: no cells, and another rope each time.
func TestNew(t *testing.T) {
	r, s := rope.New(), rope.New()
	if r == nil || s == nil || r == s {
		t.Fatalf("New() = %p and %p", r, s)
	}
	for _, x := range []*rope.Rope{r, s} {
		sameCells(t, x, nil, "New")
		sameAnswers(t, x, nil, everyPlace(0), "New")
		sameRest(t, x, nil, 0, "New")
		if x.Height() != 0 || x.Leaves() != 0 || len(x.Runs()) != 0 {
			t.Errorf("New: Height() = %d, Leaves() = %d, Runs() = %v", x.Height(), x.Leaves(), x.Runs())
		}
	}
	if e := r.Insert(0, "only here", 0); e != api.OK || s.Total() != 0 || rope.New().Total() != 0 {
		t.Errorf("one new rope sees what is done to another: %d", e)
	}
}

// P3.2, P3.4, P3.5: on a rope without cells, and one that stays without.
func TestNothingToDo(t *testing.T) {
	r := rope.New()
	for _, e := range []api.Errno{r.Insert(0, "", 0), r.Insert(0, "", api.MaxHid), r.Bump(nil, 1), r.Bump([]api.Range{}, -1)} {
		if e != api.OK {
			t.Errorf("nothing to do: %d", e)
		}
	}
	for _, e := range []api.Errno{r.Insert(1, "", 0), r.Insert(-1, "x", 0), r.Bump(list(0, 1), 1), r.Bump(list(0, 1), -1)} {
		if e != api.ErrPlace {
			t.Errorf("a place that is not there: %d", e)
		}
	}
	sameCells(t, r, nil, "nothing done")
}

// P3.3: the cells, and that the runs may be many, long and of any counters.
func TestFrom(t *testing.T) {
	for _, runs := range [][]api.Run{
		nil,
		{},
		{{Text: "a"}},
		{{Text: "ab", Hid: 2}, {Text: "c"}},
		{{Text: "é\n\t"}, {Text: "\ufffd", Hid: api.MaxHid}, {Text: "\U0001f600\u0301"}},
		{{Text: "x", Hid: 1}, {Text: "y", Hid: 2}, {Text: "z", Hid: 1}},
		{{Text: strings.Repeat("long ", 100), Hid: 3}, {Text: strings.Repeat("é", 33)}, {Text: "-", Hid: 1}, {Text: strings.Repeat("z", 64)}},
	} {
		r := made(t, runs...)
		w := rowOf(runs)
		sameCells(t, r, w, fmt.Sprint("From ", runs))
		sameAnswers(t, r, w, []int{-1, 0, 1, len(w) / 2, len(w) - 1, len(w), len(w) + 1}, fmt.Sprint("From ", runs))
		sameRest(t, r, w, 0, fmt.Sprint("From ", runs))
	}
}

// P3.3: each error, which one comes first within a run, and that the first run with one gives it.
func TestFromRefused(t *testing.T) {
	good, hidden := api.Run{Text: "ab"}, api.Run{Text: "cd", Hid: 1}
	for _, c := range []struct {
		runs []api.Run
		e    api.Errno
	}{
		{[]api.Run{{}}, api.ErrRuns},
		{[]api.Run{{Hid: -1}}, api.ErrRuns},
		{[]api.Run{good, good}, api.ErrRuns},
		{[]api.Run{good, hidden, {Text: "\xff", Hid: 1}}, api.ErrRuns},
		{[]api.Run{good, {Hid: 1}}, api.ErrRuns},
		{[]api.Run{good, {Hid: api.MaxHid + 1}}, api.ErrRuns},
		{[]api.Run{{Text: "a\xff", Hid: -1}}, api.ErrUtf8},
		{[]api.Run{{Text: "a\xff\x00"}}, api.ErrUtf8},
		{[]api.Run{{Text: "a\x00\xff", Hid: api.MaxHid + 1}}, api.ErrRune},
		{[]api.Run{good, {Text: "\ufeff", Hid: -1}}, api.ErrRune},
		{[]api.Run{{Text: "a", Hid: -1}}, api.ErrBelow},
		{[]api.Run{{Text: "a", Hid: tooFar[1]}, good, good}, api.ErrBelow},
		{[]api.Run{{Text: "a", Hid: api.MaxHid + 1}}, api.ErrAbove},
		{[]api.Run{hidden, {Text: "a", Hid: tooFar[2]}, {Text: "\xff"}}, api.ErrAbove},
		{[]api.Run{{Text: "a", Hid: -1}, {Text: "b", Hid: -1}}, api.ErrBelow},
		{[]api.Run{{Text: "ab", Hid: -1}, {Hid: 1}}, api.ErrBelow},
		{[]api.Run{good, {Text: "\xff", Hid: 1}, {}}, api.ErrUtf8},
	} {
		given := slices.Clone(c.runs)
		if r, e := rope.From(c.runs); r != nil || e != c.e {
			t.Errorf("From(%v) = %v, %d, want %d", c.runs, r, e, c.e)
		}
		if !slices.Equal(c.runs, given) {
			t.Errorf("From(%v): made %v of it", given, c.runs)
		}
	}
}

// P3.3: as many cells as may be, one more, and one more beside another error.
func TestFromGrown(t *testing.T) {
	full := strings.Repeat("ä", api.MaxPlace)
	r := made(t, api.Run{Text: full})
	if r.Total() != api.MaxPlace || r.Shown() != api.MaxPlace || r.Text() != full {
		t.Errorf("a full rope: %d cells, %d shown", r.Total(), r.Shown())
	}
	for _, c := range []struct {
		runs []api.Run
		e    api.Errno
	}{
		{[]api.Run{{Text: full + "x"}}, api.ErrGrow},
		{[]api.Run{{Text: full}, {Text: "x", Hid: 1}}, api.ErrGrow},
		{[]api.Run{{Text: full}, {Text: "x", Hid: 1}, {Text: full}, {Text: "\xff", Hid: 3}}, api.ErrUtf8},
		{[]api.Run{{Text: full}, {Text: full, Hid: 1}, {Text: "x", Hid: 1}}, api.ErrRuns},
		{[]api.Run{{Text: full + "x"}, {Text: "x", Hid: -1}}, api.ErrBelow},
	} {
		if r, e := rope.From(c.runs); r != nil || e != c.e {
			t.Errorf("From of too many: %v, %d, want %d", r != nil, e, c.e)
		}
	}
}
