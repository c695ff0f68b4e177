package op_test

import (
	"math"
	"slices"
	"strings"
	"testing"

	"redraft/api"
	"redraft/rope"
	"redraft/span"
	"redraft/utext"
)

// The oracle of Check is the chapter's list, written down as a list: the errors in their order, each with when it applies. That of Apply is the row of cells itself.

const end = api.MaxPlace

func head(c, n int, kind api.Kind) api.Head {
	return api.Head{ID: api.ID{c, n}, Kind: kind}
}

func ins(c, n, at int, text string) api.Op {
	return api.Op{Head: head(c, n, api.Ins), At: at, Text: text}
}

func hide(c, n int, ends ...int) api.Op {
	return api.Op{Head: head(c, n, api.Hide), Ranges: list(ends...)}
}

func show(c, n int, ends ...int) api.Op {
	return api.Op{Head: head(c, n, api.Show), Ranges: list(ends...)}
}

func status(c, n, tc, tn int, on bool) api.Op {
	return api.Op{Head: head(c, n, api.Status), Target: api.ID{tc, tn}, On: on}
}

// list: the ranges whose ends are the numbers, two by two.
func list(ends ...int) []api.Range {
	var out []api.Range
	for i := 0; i < len(ends); i += 2 {
		out = append(out, api.Range{Lo: ends[i], Hi: ends[i+1]})
	}
	return out
}

// teeth: n ranges of one place each, the first at at, every second place.
func teeth(at, n int) []api.Range {
	var out []api.Range
	for i := range n {
		out = append(out, api.Range{Lo: at + 2*i, Hi: at + 2*i + 1})
	}
	return out
}

// with: o with a change.
func with(o api.Op, change func(o *api.Op)) api.Op {
	change(&o)
	return o
}

func named(id api.ID) bool {
	return id[0] >= 1 && id[0] <= 8 && id[1] >= 1 && id[1] <= 1024
}

type rule struct {
	e       api.Errno
	applies bool
}

func firstOf(rules []rule) api.Errno {
	for _, r := range rules {
		if r.applies {
			return r.e
		}
	}
	return api.OK
}

func wantCheck(o api.Op, total int) api.Errno {
	inserts, statuses := o.Kind == 1, o.Kind == 4
	covers := o.Kind == 2 || o.Kind == 3
	return firstOf(append([]rule{
		{api.ErrPlace, total < 0 || total > 1048576},
		{api.ErrKind, !inserts && !covers && !statuses},
		{api.ErrID, o.ID != api.ID{0, 0} && !named(o.ID)},
		{api.ErrExtra, !inserts && (o.At != 0 || o.Text != "") || !covers && len(o.Ranges) > 0 || !statuses && (o.Target != api.ID{0, 0} || o.On)},
	}, kindRules(o, total)...))
}

func kindRules(o api.Op, total int) []rule {
	switch o.Kind {
	case 1:
		_, _, e := utext.Check(o.Text)
		n := len([]rune(o.Text))
		return []rule{
			{e, e != api.OK}, {api.ErrEmpty, n == 0}, {api.ErrLong, n > 256}, {api.ErrPlace, o.At < 0 || o.At > total}, {api.ErrGrow, total+n > 1048576},
		}
	case 4:
		return []rule{{api.ErrTarget, !named(o.Target) || o.Target == o.ID}}
	}
	_, e := span.Check(o.Ranges)
	none := len(o.Ranges) == 0
	return []rule{{api.ErrNone, none}, {e, e != api.OK}, {api.ErrPlace, !none && slices.MaxFunc(o.Ranges, byHi).Hi > total}}
}

func byHi(a, b api.Range) int { return a.Hi - b.Hi }

func wantOwn(o api.Op) api.Errno {
	if o.Kind == api.Ins && o.At >= 0 && o.At <= 1048576 {
		return wantCheck(o, o.At)
	}
	return wantCheck(o, 1048576)
}

// same: are all fields alike? (Written out here, because Equal is itself to be tested.)
func same(a, b api.Op) bool {
	if len(a.Ranges) != len(b.Ranges) {
		return false
	}
	for i := range a.Ranges {
		if a.Ranges[i].Lo != b.Ranges[i].Lo || a.Ranges[i].Hi != b.Ranges[i].Hi {
			return false
		}
	}
	return a.ID[0] == b.ID[0] && a.ID[1] == b.ID[1] && a.Kind == b.Kind && a.At == b.At && a.Text == b.Text && a.Target[0] == b.Target[0] && a.Target[1] == b.Target[1] && a.On == b.On
}

// rightOps: operations of each kind without an error of their own, those at the bounds among them.
func rightOps() []api.Op {
	return []api.Op{
		ins(1, 1, 0, "a"), ins(8, 1024, 7, "h\u00e9"), ins(0, 0, 12, " \"\\\n\t"), ins(3, 17, end-1, "\U0001f600"), ins(2, 2, end-256, strings.Repeat("\u20ac", 256)), ins(1, 3, 0, "\ufffd- ,.1"),
		hide(1, 1, 0, 1), hide(8, 1024, 0, end), hide(0, 0, 2, 5, 9, 10), hide(3, 3, 0, 1, 2, 3, end-1, end), {Head: head(4, 4, api.Hide), Ranges: teeth(1, 40)},
		show(1, 1, 0, 1), show(0, 0, 0, end), show(5, 6, 10, 100, 101, 1000),
		status(1, 2, 1, 1, true), status(1, 2, 1, 1, false), status(0, 0, 8, 1024, true), status(8, 1024, 8, 1023, false), status(7, 1, 1, 7, false),
	}
}

// wrongOps: operations of each kind with an error of their own.
func wrongOps() []api.Op {
	extra := func(o *api.Op) { o.On = true }
	return []api.Op{
		{}, {Head: head(1, 1, 5)}, {Head: head(1, 1, -1), Text: "a"}, {Head: head(0, 0, math.MaxInt)}, {Head: head(0, 0, math.MinInt)},
		ins(9, 1, 0, "a"), ins(1, 1, 0, ""), ins(1, 1, 0, "\xff"), ins(1, 1, 0, "a\x00"), ins(1, 1, 0, strings.Repeat("a", 257)), ins(1, 1, -1, "a"), ins(1, 1, end, "a"), ins(1, 1, end-1, "ab"), ins(1, 1, end+1, "a"), ins(1, 1, math.MaxInt, "a"), ins(1, 1, math.MinInt, "a"), ins(9, 1, -1, "a"), ins(1, 1, -1, ""), ins(1, 1, end+1, "\xff"), with(ins(1, 1, 0, "a"), extra),
		hide(1, 1), hide(0, 1, 0, 1), hide(1, 1, 2, 2), hide(1, 1, 3, 5, 5, 6), hide(1, 1, 0, end+1), hide(1, 1, math.MinInt, math.MaxInt), with(hide(1, 1, 0, 1), extra), {Head: head(1, 1, api.Hide), Ranges: teeth(0, api.MaxRanges+1)},
		show(1, 1), show(1, 1025, 0, 1), show(1, 1, 5, 6, 1, 2), show(1, 1, -1, 1), with(show(1, 1, 0, 1), extra),
		status(1, 2, 1, 2, true), status(1, 2, 0, 0, true), status(0, 0, 0, 0, true), status(1, 2, 9, 1, false), status(-1, 1, 1, 1, false), status(1, 1, math.MaxInt, math.MinInt, true), {Head: head(1, 1, api.Status), Target: api.ID{2, 2}, At: 1},
	}
}

type row []api.Cell

func made(t *testing.T, runs ...api.Run) *rope.Rope {
	t.Helper()
	r, e := rope.From(runs)
	if e != api.OK {
		t.Fatalf("From(%v) = %d", runs, e)
	}
	return r
}

func rowOf(r *rope.Rope) row {
	var out row
	for _, c := range r.Cells(0) {
		out = append(out, c)
	}
	return out
}

func (w row) text() string {
	var out []rune
	for _, c := range w {
		if c.Hid == 0 {
			out = append(out, c.Rune)
		}
	}
	return string(out)
}

// apply: the row behind an Apply, and what it answers.
func (w row) apply(o api.Op) (row, api.Errno) {
	if e := wantCheck(o, len(w)); e != api.OK {
		return w, e
	}
	switch o.Kind {
	case api.Ins:
		var cells row
		for _, c := range []rune(o.Text) {
			cells = append(cells, api.Cell{Rune: c})
		}
		return slices.Concat(w[:o.At], cells, w[o.At:]), api.OK
	case api.Hide:
		return w.bump(o.Ranges, 1)
	case api.Show:
		return w.bump(o.Ranges, -1)
	}
	return w, api.ErrKind
}

func (w row) bump(a []api.Range, by int) (row, api.Errno) {
	out := slices.Clone(w)
	for _, g := range a {
		for q := g.Lo; q < g.Hi; q++ {
			out[q].Hid += by
			if out[q].Hid < 0 {
				return w, api.ErrBelow
			}
			if out[q].Hid > 1048576 {
				return w, api.ErrAbove
			}
		}
	}
	return out, api.OK
}

func sameRow(t *testing.T, r *rope.Rope, w row, behind string) {
	t.Helper()
	if got := rowOf(r); !slices.Equal(got, w) || r.Text() != w.text() || r.Total() != len(w) {
		t.Fatalf("%s: cells %v, text %q, want %v, %q", behind, got, r.Text(), w, w.text())
	}
}
