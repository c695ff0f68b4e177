package server_test

import (
	"slices"
	"strings"

	"redraft/api"
	"redraft/op"
)

// The oracle carries nothing and keeps no places: its cells have names, an Ins stands ahead of a named cell, a Hide covers named cells, and every row of cells is made anew from the first command on.

// cell: the n-th rune, from 1 on, that the Ins id put in. The cell{} is none: an Ins ahead of it stands at the end.
type cell struct {
	id api.ID
	n  int
}

// meant: a command by names.
type meant struct {
	api.Op
	ahead cell
	cover []cell
}

type order []meant

func runes(text string) int { return len([]rune(text)) }

// row: the cells that the first k commands make.
func (w order) row(k int) []cell {
	var out []cell
	for _, m := range w[:k] {
		if m.Kind != api.Ins {
			continue
		}
		at := len(out)
		if m.ahead != (cell{}) {
			at = slices.Index(out, m.ahead)
		}
		out = slices.Insert(out, at, m.cells()...)
	}
	return out
}

func (w order) today() []cell { return w.row(len(w)) }

// cells: those of an Ins.
func (m meant) cells() []cell {
	var out []cell
	for n := range runes(m.Text) {
		out = append(out, cell{m.ID, n + 1})
	}
	return out
}

// meaning: what an operation means where these cells are.
func meaning(row []cell, o api.Op) meant {
	m := meant{Op: op.Clone(o)}
	if o.Kind == api.Ins && o.At < len(row) {
		m.ahead = row[o.At]
	}
	for _, r := range o.Ranges {
		m.cover = append(m.cover, row[r.Lo:r.Hi]...)
	}
	return m
}

// form: the operation that means it where these cells are. (P14.12: by the cells that its author knew; one at the end stays at the end, behind what came earlier.)
func (m meant) form(row []cell) api.Op {
	o := api.Op{Head: m.Head, Text: m.Text, Target: m.Target, On: m.On, Ranges: rangesOf(row, m.cover)}
	if m.Kind == api.Ins {
		o.At = len(row)
		if m.ahead != (cell{}) {
			o.At = slices.Index(row, m.ahead)
		}
	}
	return o
}

// rangesOf: where the cells stand in the row.
func rangesOf(row, cells []cell) []api.Range {
	var out []api.Range
	for q, c := range row {
		if !slices.Contains(cells, c) {
			continue
		}
		if k := len(out) - 1; k >= 0 && out[k].Hi == q {
			out[k].Hi++
		} else {
			out = append(out, api.Range{Lo: q, Hi: q + 1})
		}
	}
	return out
}

func (w order) find(id api.ID) int {
	return slices.IndexFunc(w, func(m meant) bool { return m.ID == id })
}

// flag: is the edit on? The last Status on it says so.
func (w order) flag(id api.ID) bool {
	on := true
	for _, m := range w {
		if m.Kind == api.Status && m.Target == id {
			on = m.On
		}
	}
	return on
}

// counter: DOC.md's rule 1.
func (w order) counter(c cell) int {
	n := 0
	for _, m := range w {
		if m.Kind == api.Ins && m.ID == c.id && !w.flag(m.ID) || m.Kind == api.Hide && w.flag(m.ID) && slices.Contains(m.cover, c) {
			n++
		}
	}
	return n
}

func (w order) letter(c cell) rune { return []rune(w[w.find(c.id)].Text)[c.n-1] }

// runs: all cells as the fewest runs.
func (w order) runs() []api.Run {
	var out []api.Run
	for _, c := range w.today() {
		hid, text := w.counter(c), string(w.letter(c))
		if k := len(out) - 1; k >= 0 && out[k].Hid == hid {
			out[k].Text += text
		} else {
			out = append(out, api.Run{Text: text, Hid: hid})
		}
	}
	return out
}

// textOf: what is visible of runs.
func textOf(runs []api.Run) string {
	var b strings.Builder
	for _, r := range runs {
		if r.Hid == 0 {
			b.WriteString(r.Text)
		}
	}
	return b.String()
}

// ops: the commands lo to hi-1, each in its context.
func (w order) ops(lo, hi int) []api.Op {
	var out []api.Op
	for i := lo; i < hi; i++ {
		out = append(out, w[i].form(w.row(i)))
	}
	return out
}

// by: how many commands the client has, the revision of its last one, and how many cells they put in.
func (w order) by(client int) (last, revision, cells int) {
	for k, m := range w {
		if m.ID[0] == client {
			last, revision, cells = m.ID[1], k+1, cells+runes(m.Text)
		}
	}
	return last, revision, cells
}

// with: the order and behind it o, made in the context of all.
func (w order) with(o api.Op) order {
	return append(slices.Clone(w), meaning(w.today(), o))
}
