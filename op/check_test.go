package op_test

import (
	"math"
	"strings"
	"testing"

	"redraft/api"
	"redraft/op"
)

func sameCheck(t *testing.T, o api.Op, total int, want api.Errno) {
	t.Helper()
	if e := op.Check(o, total); e != want {
		t.Errorf("O1: Check(%.99v, %d) = %d, want %d", o, total, e, want)
	}
}

// O1: the chapter's examples.
func TestCheckExamples(t *testing.T) {
	on := func(o *api.Op) { o.On = true }
	for _, c := range []struct {
		o     api.Op
		total int
		e     api.Errno
	}{
		{ins(1, 1, 10, "ab"), 10, api.OK},
		{ins(1, 1, 11, "ab"), 10, api.ErrPlace},
		{ins(1, 1, 11, ""), 10, api.ErrEmpty},
		{with(ins(1, 1, 0, "a"), on), 10, api.ErrExtra},
		{with(ins(9, 1, 0, "a"), on), 10, api.ErrID},
		{hide(0, 0, 2, 5), 10, api.OK},
		{hide(0, 1, 2, 5), 10, api.ErrID},
		{hide(1, 1), 10, api.ErrNone},
		{hide(1, 1, 2, 5, 9, 11), 10, api.ErrPlace},
		{status(1, 2, 1, 2, false), 10, api.ErrTarget},
		{status(1, 2, 0, 0, false), 10, api.ErrTarget},
		{ins(1, 1, 0, "a"), 1048576, api.ErrGrow},
		{ins(1, 1, 0, "a"), 1048577, api.ErrPlace},
	} {
		sameCheck(t, c.o, c.total, c.e)
	}
}

// O1: total at its bounds and beyond, for each kind.
func TestCheckTotal(t *testing.T) {
	for _, total := range []int{-1, end + 1, math.MinInt, math.MaxInt} {
		for _, o := range append(rightOps(), wrongOps()...) {
			sameCheck(t, o, total, api.ErrPlace)
		}
	}
	for _, c := range []struct {
		o     api.Op
		total int
		e     api.Errno
	}{
		{ins(1, 1, 0, "a"), 0, api.OK}, {ins(1, 1, 1, "a"), 0, api.ErrPlace}, {hide(1, 1, 0, 1), 0, api.ErrPlace}, {show(1, 1, 0, 1), 0, api.ErrPlace}, {status(1, 2, 1, 1, true), 0, api.OK},
		{ins(1, 1, end, "a"), end, api.ErrGrow}, {ins(1, 1, end-1, "a"), end - 1, api.OK}, {ins(1, 1, 0, "ab"), end - 1, api.ErrGrow}, {hide(1, 1, 0, end), end, api.OK}, {hide(1, 1, 0, end), end - 1, api.ErrPlace}, {show(1, 1, 0, end), end, api.OK}, {status(1, 2, 1, 1, false), end, api.OK},
	} {
		sameCheck(t, c.o, c.total, c.e)
	}
}

// O1: kinds that are none, whatever else is wrong but total.
func TestCheckKind(t *testing.T) {
	for _, kind := range []api.Kind{0, -1, 5, 256, 1 << 32, math.MinInt, math.MaxInt} {
		for _, o := range append(rightOps(), wrongOps()...) {
			o.Kind = kind
			sameCheck(t, o, 10, api.ErrKind)
		}
	}
}

// O1: ids at their bounds and beyond, for each kind; ID{} is let in.
func TestCheckID(t *testing.T) {
	for _, o := range []api.Op{ins(0, 0, 0, "a"), hide(0, 0, 0, 1), show(0, 0, 0, 1), status(0, 0, 4, 4, true)} {
		for _, id := range []api.ID{{}, {1, 1}, {1, 1024}, {8, 1}, {8, 1024}} {
			o.ID = id
			sameCheck(t, o, 9, api.OK)
		}
		for _, id := range []api.ID{{0, 1}, {1, 0}, {9, 1}, {1, 1025}, {9, 1025}, {-1, 1}, {1, -1}, {-1, -1}, {math.MaxInt, 1}, {1, math.MinInt}} {
			o.ID = id
			sameCheck(t, o, 9, api.ErrID)
			sameCheck(t, with(o, func(o *api.Op) { o.At, o.Target = 99, api.ID{99, 99} }), 9, api.ErrID)
		}
	}
}

// O1: each field that a kind does not use, with a value that would be right and with a wrong one.
func TestCheckExtra(t *testing.T) {
	changes := map[string][]func(o *api.Op){
		"At":     {func(o *api.Op) { o.At = 1 }, func(o *api.Op) { o.At = -1 }, func(o *api.Op) { o.At = math.MinInt }},
		"Text":   {func(o *api.Op) { o.Text = "a" }, func(o *api.Op) { o.Text = "\xff" }, func(o *api.Op) { o.Text = "\x00" }},
		"Ranges": {func(o *api.Op) { o.Ranges = list(0, 1) }, func(o *api.Op) { o.Ranges = list(0, 0) }},
		"Target": {func(o *api.Op) { o.Target = api.ID{1, 1} }, func(o *api.Op) { o.Target = api.ID{0, 1} }, func(o *api.Op) { o.Target = api.ID{-1, 0} }},
		"On":     {func(o *api.Op) { o.On = true }},
	}
	for _, c := range []struct {
		o      api.Op
		unused []string
	}{
		{ins(1, 2, 3, "a"), []string{"Ranges", "Target", "On"}}, {ins(1, 2, 99, "\xff"), []string{"Ranges", "Target", "On"}},
		{hide(1, 2, 3, 4), []string{"At", "Text", "Target", "On"}}, {hide(1, 2), []string{"At", "Text", "Target", "On"}},
		{show(1, 2, 3, 4), []string{"At", "Text", "Target", "On"}}, {show(1, 2, 4, 3), []string{"At", "Text", "Target", "On"}},
		{status(1, 2, 3, 4, true), []string{"At", "Text", "Ranges"}}, {status(1, 2, 1, 2, false), []string{"At", "Text", "Ranges"}},
	} {
		for _, field := range c.unused {
			for _, change := range changes[field] {
				sameCheck(t, with(c.o, change), 9, api.ErrExtra)
			}
		}
	}
	empty := func(o *api.Op) { o.Ranges = []api.Range{} }
	sameCheck(t, with(ins(1, 1, 0, "a"), empty), 9, api.OK)
	sameCheck(t, with(status(1, 2, 1, 1, true), empty), 9, api.OK)
	sameCheck(t, with(hide(1, 1), empty), 9, api.ErrNone)
}

// O1: an Ins: its text's errors, its length, its place, in this order.
func TestCheckInsert(t *testing.T) {
	full, over := strings.Repeat("\U0001f600", 256), strings.Repeat("\U0001f600", 257)
	for _, c := range []struct {
		at    int
		text  string
		total int
		e     api.Errno
	}{
		{0, "a", 9, api.OK}, {9, "a", 9, api.OK}, {10, "a", 9, api.ErrPlace}, {-1, "a", 9, api.ErrPlace}, {math.MinInt, "a", 9, api.ErrPlace}, {math.MaxInt, "a", 9, api.ErrPlace},
		{9, full, 9, api.OK}, {9, over, 9, api.ErrLong}, {-1, over, 9, api.ErrLong}, {0, over, end, api.ErrLong},
		{0, full, end - 256, api.OK}, {0, full, end - 255, api.ErrGrow}, {end, full, end - 255, api.ErrPlace}, {-1, "a", end, api.ErrPlace}, {end, "a", end, api.ErrGrow},
		{0, "", 9, api.ErrEmpty}, {-1, "", end, api.ErrEmpty},
		{-1, "\xff", end, api.ErrUtf8}, {0, over + "\xff", 9, api.ErrUtf8}, {0, over + "\x00\xff", 9, api.ErrRune}, {-1, "\ufeff", end, api.ErrRune},
	} {
		sameCheck(t, ins(1, 1, c.at, c.text), c.total, c.e)
	}
}

// O1: a Hide and a Show: no ranges, the list's errors, the last end, in this order.
func TestCheckRanges(t *testing.T) {
	for _, kind := range []api.Kind{api.Hide, api.Show} {
		for _, c := range []struct {
			a     []api.Range
			total int
			e     api.Errno
		}{
			{nil, 9, api.ErrNone}, {[]api.Range{}, 0, api.ErrNone}, {list(0, 9), 9, api.OK}, {list(0, 10), 9, api.ErrPlace}, {list(0, 1, 3, 9), 9, api.OK}, {list(0, 1, 3, 10), 9, api.ErrPlace},
			{list(9, 9), 9, api.ErrRange}, {list(4, 3), 9, api.ErrRange}, {list(-1, 3), 9, api.ErrRange}, {list(0, end+1), 9, api.ErrRange}, {list(math.MaxInt, math.MinInt), 9, api.ErrRange},
			{list(0, 2, 2, 3), 9, api.ErrOrder}, {list(0, 2, 1, 99), 9, api.ErrOrder}, {list(20, 30, 1, 2), 9, api.ErrOrder}, {list(20, 30, 1, 1), 9, api.ErrRange},
			{teeth(0, api.MaxRanges), 2*api.MaxRanges - 1, api.OK}, {teeth(0, api.MaxRanges), 2*api.MaxRanges - 2, api.ErrPlace},
			{teeth(0, api.MaxRanges+1), end, api.ErrMany}, {teeth(0, api.MaxRanges+1), 0, api.ErrMany}, {append(list(1, 0), teeth(4, api.MaxRanges)...), 9, api.ErrMany},
		} {
			sameCheck(t, api.Op{Head: head(1, 1, kind), Ranges: c.a}, c.total, c.e)
		}
	}
}

// O1: a Status: a target that is no id, or its own.
func TestCheckTarget(t *testing.T) {
	for _, id := range []api.ID{{}, {1, 2}, {8, 1024}} {
		for _, c := range []struct {
			target api.ID
			e      api.Errno
		}{
			{api.ID{1, 1}, api.OK}, {api.ID{8, 1}, api.OK}, {api.ID{1, 1024}, api.OK}, {api.ID{2, 1}, api.OK},
			{api.ID{}, api.ErrTarget}, {api.ID{0, 1}, api.ErrTarget}, {api.ID{1, 0}, api.ErrTarget}, {api.ID{9, 1}, api.ErrTarget}, {api.ID{1, 1025}, api.ErrTarget}, {api.ID{-1, 1}, api.ErrTarget}, {api.ID{math.MaxInt, math.MinInt}, api.ErrTarget},
		} {
			for _, on := range []bool{false, true} {
				sameCheck(t, api.Op{Head: api.Head{ID: id, Kind: api.Status}, Target: c.target, On: on}, 0, c.e)
			}
		}
	}
	sameCheck(t, status(1, 2, 1, 2, true), 0, api.ErrTarget)
	sameCheck(t, status(8, 1024, 8, 1024, false), end, api.ErrTarget)
	sameCheck(t, status(2, 1, 1, 2, true), 0, api.OK)
}

// O1, rule 10: all that can be wrong at once, in all mixtures: the error that is named first.
func TestCheckMixtures(t *testing.T) {
	for o := range mixtures {
		for _, total := range []int{-1, 0, 10, end - 1, end, end + 1} {
			if e, want := op.Check(o, total), wantCheck(o, total); e != want {
				t.Fatalf("O1: Check(%.99v, %d) = %d, want %d", o, total, e, want)
			}
		}
	}
}

// O1, O3, O7, O8: an operation's own error, in all mixtures.
func TestOwnMixtures(t *testing.T) {
	for o := range mixtures {
		want := wantOwn(o)
		back, e := op.Inverse(o)
		line, f := op.Print(o)
		if e != want || f != want {
			t.Fatalf("O7, O8: of %.99v the own error is %d, %d, want %d", o, e, f, want)
		}
		if want != api.OK && (!same(back, api.Op{}) || line != "" || len(op.Covers(o)) > 0) {
			t.Fatalf("O3, O7, O8: %.99v is not right, but Inverse gives %v, Print %q, Covers %v", o, back, line, op.Covers(o))
		}
	}
}

// mixtures gives operations with all mixtures of right and wrong heads and fields.
func mixtures(yield func(o api.Op) bool) {
	for _, kind := range []api.Kind{0, api.Ins, api.Hide, api.Show, api.Status, 5} {
		for _, id := range []api.ID{{}, {1, 2}, {0, 2}, {9, 9}} {
			if !mixFields(api.Op{Head: api.Head{ID: id, Kind: kind}}, yield) {
				return
			}
		}
	}
}

func mixFields(o api.Op, yield func(o api.Op) bool) bool {
	for _, o.At = range []int{0, -1, 10, 11, end, math.MaxInt} {
		for _, o.Text = range []string{"", "ab", "\xff", "\x00", strings.Repeat("x", 257)} {
			for _, o.Ranges = range [][]api.Range{nil, list(0, 10), list(8, 11), list(2, 2), list(1, 2, 2, 99), list(0, end)} {
				for _, o.Target = range []api.ID{{}, {1, 2}, {2, 1}, {9, 1}} {
					for _, o.On = range []bool{false, true} {
						if !yield(o) {
							return false
						}
					}
				}
			}
		}
	}
	return true
}
