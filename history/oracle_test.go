package history_test

import (
	"fmt"
	"slices"
	"strings"
	"testing"

	"redraft/api"
	"redraft/history"
	"redraft/op"
)

// The oracle knows no carrying: its cells have names, an Ins stands ahead of a named cell, a Hide covers named cells, and every row of cells is made anew from the first command on.

// cell: the n-th rune that the Ins id put in. The cell{} stands behind all others.
type cell struct {
	id api.ID
	n  int
}

// meant: a command by names.
type meant struct {
	api.Op
	ahead cell
	cover []cell
}

type order []meant

func ins(client, number, at int, text string) api.Op {
	return api.Op{Head: api.Head{ID: api.ID{client, number}, Kind: api.Ins}, At: at, Text: text}
}

func hide(client, number int, ends ...int) api.Op {
	return api.Op{Head: api.Head{ID: api.ID{client, number}, Kind: api.Hide}, Ranges: list(ends...)}
}

func status(client, number int, target api.ID, on bool) api.Op {
	return api.Op{Head: api.Head{ID: api.ID{client, number}, Kind: api.Status}, Target: target, On: on}
}

// effect: an operation without an id.
func effect(kind api.Kind, at int, text string, ends ...int) api.Op {
	return api.Op{Head: api.Head{Kind: kind}, At: at, Text: text, Ranges: list(ends...)}
}

// list: the ranges whose ends are the numbers, two by two.
func list(ends ...int) []api.Range {
	var out []api.Range
	for i := 0; i < len(ends); i += 2 {
		out = append(out, api.Range{Lo: ends[i], Hi: ends[i+1]})
	}
	return out
}

// rangesOf: places that rise, as ranges.
func rangesOf(places []int) []api.Range {
	var out []api.Range
	for _, q := range places {
		if k := len(out) - 1; k >= 0 && out[k].Hi == q {
			out[k].Hi++
		} else {
			out = append(out, api.Range{Lo: q, Hi: q + 1})
		}
	}
	return out
}

func placesIn(list []api.Range) []int {
	var out []int
	for _, r := range list {
		for q := r.Lo; q < r.Hi; q++ {
			out = append(out, q)
		}
	}
	return out
}

func runes(o api.Op) int { return len([]rune(o.Text)) }

// row: the cells that the first k commands make.
func (w order) row(k int) []cell {
	var out []cell
	for _, m := range w[:k] {
		if m.Kind != api.Ins {
			continue
		}
		at := placeOf(out, m.ahead)
		for n := range runes(m.Op) {
			out = slices.Insert(out, at+n, cell{m.ID, n + 1})
		}
	}
	return out
}

// placeOf: where the cell stands; the end, of the cell{}.
func placeOf(row []cell, c cell) int {
	if at := slices.Index(row, c); at >= 0 {
		return at
	}
	return len(row)
}

// meaning: what an operation means where these cells are.
func meaning(row []cell, o api.Op) meant {
	m := meant{Op: o}
	if o.Kind == api.Ins && o.At < len(row) {
		m.ahead = row[o.At]
	}
	if o.Kind == api.Hide {
		for _, q := range placesIn(o.Ranges) {
			m.cover = append(m.cover, row[q])
		}
	}
	return m
}

// form: the operation that means it where these cells are.
func (m meant) form(row []cell) api.Op {
	o := api.Op{Head: m.Head, Text: m.Text, Target: m.Target, On: m.On}
	if m.Kind == api.Ins {
		o.At = placeOf(row, m.ahead)
	}
	o.Ranges = coverOf(row, m.cover)
	return o
}

func coverOf(row, cells []cell) []api.Range {
	var at []int
	for _, c := range cells {
		at = append(at, slices.Index(row, c))
	}
	slices.Sort(at)
	return rangesOf(at)
}

// cells: those of an edit.
func (m meant) cells() []cell {
	if m.Kind != api.Ins {
		return m.cover
	}
	var out []cell
	for n := range runes(m.Op) {
		out = append(out, cell{m.ID, n + 1})
	}
	return out
}

// with: the order with o as its command number i.
func (w order) with(i int, o api.Op) order {
	return slices.Insert(slices.Clone(w), i, meaning(w.row(i), o))
}

func (w order) find(id api.ID) int {
	return slices.IndexFunc(w, func(m meant) bool { return m.ID == id })
}

// flag: is the edit on?
func (w order) flag(id api.ID) bool {
	on := true
	for _, m := range w {
		if m.Kind == api.Status && m.Target == id {
			on = m.On
		}
	}
	return on
}

// ops: all commands in their contexts.
func (w order) ops() []api.Op {
	var out []api.Op
	for i, m := range w {
		out = append(out, m.form(w.row(i)))
	}
	return out
}

// places: where the cells of command i stand now.
func (w order) places(i int) []api.Range { return coverOf(w.row(len(w)), w[i].cells()) }

func (w order) entry(i int) api.Entry {
	m := w[i]
	if m.Kind == api.Status {
		return api.Entry{ID: m.ID, Kind: m.Kind, On: m.On, Target: m.Target}
	}
	return api.Entry{ID: m.ID, Kind: m.Kind, On: w.flag(m.ID), Ranges: w.places(i)}
}

// counters: of all cells today, by DOC.md's rule 1.
func (w order) counters() []int {
	out := make([]int, len(w.row(len(w))))
	for i, m := range w {
		if m.Kind == api.Ins && w.flag(m.ID) || m.Kind == api.Hide && !w.flag(m.ID) || m.Kind == api.Status {
			continue
		}
		for _, q := range placesIn(w.places(i)) {
			out[q]++
		}
	}
	return out
}

// wantPut: P6.3 but for its limits: the order behind it, the effect, the error.
func (w order) wantPut(i int, o api.Op) (order, api.Op, api.Errno) {
	if e := w.putError(i, o); e != api.OK {
		return w, api.Op{}, e
	}
	next := w.with(i, o)
	x := api.Op{Head: api.Head{Kind: o.Kind}}
	switch o.Kind {
	case api.Ins:
		x.Text, x.At = o.Text, next.places(i)[0].Lo
	case api.Hide:
		x.Ranges = next.places(i)
	default:
		x = api.Op{}
		if w.flag(o.Target) != next.flag(o.Target) {
			x = next.turning(o.Target, o.On)
		}
	}
	return next, x, api.OK
}

func (w order) putError(i int, o api.Op) api.Errno {
	if i < 0 || i > len(w) {
		return api.ErrPlace
	}
	if e := op.Check(o, len(w.row(i))); e != api.OK {
		return e
	}
	if o.Kind == api.Show {
		return api.ErrKind
	}
	if o.ID == (api.ID{}) {
		return api.ErrID
	}
	if w.find(o.ID) >= 0 {
		return api.ErrTwice
	}
	if k := w[:i].find(o.Target); o.Kind == api.Status && k < 0 {
		return api.ErrUnknown
	} else if o.Kind == api.Status && w[k].Kind == api.Status {
		return api.ErrTarget
	}
	return api.OK
}

// turning: what must be done to today's cells when an edit goes on or off.
func (w order) turning(id api.ID, on bool) api.Op {
	k := w.find(id)
	kinds := map[bool]api.Kind{true: api.Show, false: api.Hide}
	if w[k].Kind == api.Hide {
		kinds = map[bool]api.Kind{true: api.Hide, false: api.Show}
	}
	return api.Op{Head: api.Head{Kind: kinds[on]}, Ranges: w.places(k)}
}

func (w order) wantEffect(id api.ID, on bool) (api.Op, api.Errno) {
	k := w.find(id)
	switch {
	case k < 0:
		return api.Op{}, api.ErrUnknown
	case w[k].Kind == api.Status:
		return api.Op{}, api.ErrTarget
	case w.flag(id) == on:
		return api.Op{}, api.ErrTurned
	}
	return w.turning(id, on), api.OK
}

// wantErase: P6.8, place by place.
func (w order) wantErase(id api.ID) ([]api.Op, api.Errno) {
	k := w.find(id)
	if k < 0 {
		return nil, api.ErrUnknown
	}
	if w[k].Kind == api.Status {
		return nil, api.ErrTarget
	}
	var out []api.Op
	for i, m := range w {
		if m.ID == id || m.Target == id {
			continue
		}
		row := w.row(i)
		gone := func(q int) bool { return w[k].Kind == api.Ins && row[q].id == id }
		below := func(q int) int {
			n := 0
			for p := range q {
				if gone(p) {
					n++
				}
			}
			return n
		}
		o := m.form(row)
		if o.Kind == api.Ins {
			if n := below(o.At); n > 0 && n < below(len(row)) {
				return nil, api.ErrInside
			}
			o.At -= below(o.At)
		}
		var at []int
		for _, q := range placesIn(o.Ranges) {
			if gone(q) {
				return nil, api.ErrInside
			}
			at = append(at, q-below(q))
		}
		o.Ranges = rangesOf(at)
		out = append(out, o)
	}
	return out, api.OK
}

func (w order) wantLast(client int) int {
	last := 0
	for _, m := range w {
		if m.ID[0] == client && m.ID[1] > last {
			last = m.ID[1]
		}
	}
	return last
}

// cut: what is told of a fault, each part cut short: a list may have thousands of ranges.
func cut(what string, args ...any) string {
	for i, arg := range args {
		if s := fmt.Sprint(arg); len(s) > 300 {
			args[i] = s[:300] + ".."
		} else {
			args[i] = s
		}
	}
	return fmt.Sprintf(strings.ReplaceAll(what, "%d", "%v"), args...)
}

// sameOp: is that the operation, and the error? With an error all is zero.
func sameOp(t *testing.T, got api.Op, e api.Errno, want api.Op, f api.Errno, what string, args ...any) {
	t.Helper()
	if e != f || !op.Equal(got, want) {
		t.Error(cut(what+" = %v, %d, want %v, %d", append(args, got, int(e), want, int(f))...))
	}
}

// sameRun: likewise, of a run.
func sameRun(t *testing.T, got []api.Op, e api.Errno, want []api.Op, f api.Errno, what string, args ...any) {
	t.Helper()
	if e != f || !slices.EqualFunc(got, want, op.Equal) {
		t.Error(cut(what+" = %v, %d, want %v, %d", append(args, got, int(e), want, int(f))...))
	}
}

// sameEntry: likewise, of an entry.
func sameEntry(t *testing.T, got api.Entry, e api.Errno, want api.Entry, f api.Errno, what string, args ...any) {
	t.Helper()
	same := got.ID == want.ID && got.Kind == want.Kind && got.On == want.On && got.Target == want.Target && slices.Equal(got.Ranges, want.Ranges)
	if e != f || !same {
		t.Error(cut(what+" = %v, %d, want %v, %d", append(args, got, int(e), want, int(f))...))
	}
}

// sameNumber: likewise, of a number.
func sameNumber(t *testing.T, got int, e api.Errno, want int, f api.Errno, what string, args ...any) {
	t.Helper()
	if e != f || got != want {
		t.Error(cut(what+" = %d, %d, want %d, %d", append(args, got, int(e), want, int(f))...))
	}
}

// agree: does the history answer every query as the oracle does?
func agree(t *testing.T, h *history.History, w order) {
	t.Helper()
	sameNumber(t, h.Len(), api.OK, len(w), api.OK, "P6.2: Len of %v", w.ops())
	sameNumber(t, h.Total(), api.OK, len(w.row(len(w))), api.OK, "P6.2: Total of %v", w.ops())
	got, e := h.Ops(0, h.Len())
	want := w.ops()
	sameRun(t, got, e, want, api.OK, "P6.7: Ops(0, %d)", len(w))
	for i, m := range w {
		x, e := h.Entry(i)
		sameEntry(t, x, e, w.entry(i), api.OK, "P6.4: Entry(%d) of %v", i, want)
		n, e := h.Find(m.ID)
		sameNumber(t, n, e, i, api.OK, "P6.5: Find(%v)", m.ID)
		one, e := h.Ops(i, i+1)
		sameRun(t, one, e, want[i:i+1], api.OK, "P6.7: Ops(%d, %d)", i, i+1)
		for _, on := range []bool{false, true} {
			a, e := h.Effect(m.ID, on)
			b, f := w.wantEffect(m.ID, on)
			sameOp(t, a, e, b, f, "P6.6: Effect(%v, %v) of %v", m.ID, on, want)
		}
		left, e := h.Erase(m.ID)
		rest, f := w.wantErase(m.ID)
		sameRun(t, left, e, rest, f, "P6.8: Erase(%v) of %v", m.ID, want)
	}
	for client := -1; client <= api.MaxClients+1; client++ {
		sameNumber(t, h.Last(client), api.OK, w.wantLast(client), api.OK, "P6.9: Last(%d)", client)
	}
}
