package op_test

import (
	"math"
	"slices"
	"strings"
	"testing"

	"redraft/api"
	"redraft/op"
)

// O2: the runes of an Ins' text, whatever else is wrong with it; else 0.
func TestWidth(t *testing.T) {
	long := strings.Repeat("\u00e9", 300)
	for _, c := range []struct {
		o    api.Op
		want int
	}{
		{ins(1, 1, 0, "a"), 1}, {ins(1, 1, 3, "h\u00e9"), 2}, {ins(0, 0, 3, "\U0001f600\ufffd\n"), 3}, {ins(1, 1, 0, long[:512]), 256},
		{ins(1, 1, 0, ""), 0}, {ins(1, 1, 0, long), 300}, {ins(1, 1, -5, "ab"), 2}, {ins(1, 1, math.MaxInt, "ab"), 2}, {ins(9, 9, 0, "ab"), 2}, {with(ins(1, 1, 0, "ab"), func(o *api.Op) { o.On, o.Ranges = true, list(0, 9) }), 2},
		{ins(1, 1, 0, "ab\xff"), 0}, {ins(1, 1, 0, "ab\x00"), 0},
		{hide(1, 1, 0, 9), 0}, {show(1, 1, 0, 9), 0}, {status(1, 2, 1, 1, true), 0}, {api.Op{Text: "ab"}, 0}, {api.Op{Head: head(1, 1, api.Hide), Text: "ab"}, 0}, {api.Op{Head: head(1, 1, 5), Text: "ab"}, 0},
	} {
		if n := op.Width(c.o); n != c.want {
			t.Errorf("O2: Width(%.99v) = %d, want %d", c.o, n, c.want)
		}
	}
}

// O3: of each kind, of those at the end of all places, and of what is not right.
func TestCovers(t *testing.T) {
	for _, c := range []struct {
		o    api.Op
		want []api.Range
	}{
		{ins(1, 1, 3, "h\u00e9"), list(3, 5)}, {ins(0, 0, 0, "a"), list(0, 1)}, {ins(1, 1, end-2, "h\u00e9"), list(end-2, end)}, {ins(1, 1, end-1, "h\u00e9"), nil}, {ins(1, 1, end, "a"), nil},
		{hide(1, 1, 0, 1), list(0, 1)}, {hide(1, 1, 0, 1, 7, end), list(0, 1, 7, end)}, {show(0, 0, 2, 5, 9, 10), list(2, 5, 9, 10)}, {api.Op{Head: head(1, 1, api.Show), Ranges: teeth(0, api.MaxRanges)}, teeth(0, api.MaxRanges)},
		{status(1, 2, 1, 1, true), nil}, {status(0, 0, 1, 1, false), nil},
	} {
		if got := op.Covers(c.o); !slices.Equal(got, c.want) {
			t.Errorf("O3: Covers(%.99v) = %.99v, want %.99v", c.o, got, c.want)
		}
	}
	for _, o := range wrongOps() {
		if got := op.Covers(o); len(got) != 0 {
			t.Errorf("O3: Covers(%.99v) = %.99v of what is not right", o, got)
		}
	}
}

// allChanges: o with each one of its fields changed.
func allChanges(o api.Op) []api.Op {
	return []api.Op{
		with(o, func(o *api.Op) { o.ID[0]++ }), with(o, func(o *api.Op) { o.ID[1]-- }), with(o, func(o *api.Op) { o.Kind++ }), with(o, func(o *api.Op) { o.At ^= math.MinInt }),
		with(o, func(o *api.Op) { o.Text += "\x00" }), with(o, func(o *api.Op) { o.Text = "\xff" + o.Text }), with(o, func(o *api.Op) { o.Target[0]-- }), with(o, func(o *api.Op) { o.Target[1]++ }), with(o, func(o *api.Op) { o.On = !o.On }),
		with(o, func(o *api.Op) { o.Ranges = append(slices.Clone(o.Ranges), api.Range{}) }), with(o, func(o *api.Op) { o.Ranges = append(list(0, 0), o.Ranges...) }),
	}
}

// O4: alike with itself, right or not, and unlike with each one field changed.
func TestEqual(t *testing.T) {
	all := append(rightOps(), wrongOps()...)
	for _, a := range all {
		for _, b := range all {
			if got := op.Equal(a, b); got != same(a, b) {
				t.Errorf("O4: Equal(%.99v, %.99v) = %v", a, b, got)
			}
		}
		for _, b := range allChanges(a) {
			if op.Equal(a, b) || op.Equal(b, a) {
				t.Errorf("O4: Equal(%.99v, %.99v)", a, b)
			}
		}
	}
	a := hide(1, 1, 0, 2, 5, 9)
	for _, b := range []api.Op{hide(1, 1, 0, 2), hide(1, 1, 5, 9), hide(1, 1, 0, 2, 5, 8), hide(1, 1, 0, 2, 4, 9), hide(1, 1, 5, 9, 0, 2)} {
		if op.Equal(a, b) || op.Equal(b, a) {
			t.Errorf("O4: Equal(%v, %v)", a, b)
		}
	}
}

// O4, rule 13: nil and a list without elements are one; texts are compared by their bytes, not their runes; spare room counts for nothing.
func TestEqualLists(t *testing.T) {
	none, empty := ins(1, 1, 0, "a"), ins(1, 1, 0, "a")
	empty.Ranges = make([]api.Range, 0, 4)
	if !op.Equal(none, empty) || !op.Equal(empty, none) {
		t.Errorf("O4: nil and a list without elements are told apart")
	}
	if op.Equal(ins(1, 1, 0, "\xff"), ins(1, 1, 0, "\xfe")) || op.Equal(ins(1, 1, 0, "\xff"), ins(1, 1, 0, "\ufffd")) {
		t.Errorf("O4: texts with unlike bytes are alike")
	}
	a, b := hide(1, 1, 0, 1), hide(1, 1, 0, 1, 7, 8)
	b.Ranges = b.Ranges[:1]
	if !op.Equal(a, b) {
		t.Errorf("O4: the spare room is looked at")
	}
}

// O5: alike, right or not.
func TestClone(t *testing.T) {
	for _, o := range append(rightOps(), wrongOps()...) {
		if got := op.Clone(o); !same(got, o) || !op.Equal(got, o) {
			t.Errorf("O5: Clone(%.99v) = %.99v", o, got)
		}
	}
}

// roomy: o with spare room behind its ranges that is not zero.
func roomy(o api.Op) api.Op {
	o.Ranges = append(slices.Clone(o.Ranges), list(90, 91, 92, 93)...)[:len(o.Ranges)]
	return o
}

func scribble(a []api.Range) {
	whole := a[:cap(a)]
	for i := range whole {
		whole[i] = api.Range{Lo: -7, Hi: -8}
	}
}

// handedOut: a call that hands out ranges, told with their list alone.
func handedOut() map[string]func(o api.Op) []api.Range {
	return map[string]func(o api.Op) []api.Range{
		"Clone":  func(o api.Op) []api.Range { return op.Clone(o).Ranges },
		"Covers": op.Covers,
		"Inverse": func(o api.Op) []api.Range {
			back, _ := op.Inverse(o)
			return back.Ranges
		},
		"Parse": func(o api.Op) []api.Range {
			line, _ := op.Print(o)
			back, _ := op.Parse(line)
			return back.Ranges
		},
	}
}

// O3, O5, O7, O9, rule 11: what is handed out is new memory, spare room too, and what is handed in stays.
func TestNewMemory(t *testing.T) {
	for name, call := range handedOut() {
		for _, given := range append(rightOps(), wrongOps()...) {
			o := roomy(given)
			was := slices.Clone(o.Ranges[:cap(o.Ranges)])
			got, again := call(o), call(o)
			kept := slices.Clone(again)
			scribble(got)
			if !slices.Equal(again, kept) || !slices.Equal(call(o), kept) {
				t.Errorf("%s(%.99v): two answers share memory", name, given)
			}
			if !slices.Equal(o.Ranges[:cap(o.Ranges)], was) {
				t.Errorf("%s(%.99v): what was handed in is %.99v now", name, given, o.Ranges)
			}
		}
	}
}

// O5: what is written into the one is not seen in the other.
func TestCloneApart(t *testing.T) {
	o := hide(1, 1, 2, 5, 7, 9)
	c := op.Clone(o)
	o.Ranges[0], c.Ranges[1] = api.Range{Lo: 0, Hi: 1}, api.Range{Lo: 20, Hi: 30}
	if !same(c, hide(1, 1, 2, 5, 20, 30)) || !same(o, hide(1, 1, 0, 1, 7, 9)) {
		t.Errorf("O5: %v and its clone %v share memory", o, c)
	}
}
