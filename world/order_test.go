package world_test

import (
	"slices"
	"strings"

	"redraft/api"
	"redraft/op"
)

// The oracle carries nothing and keeps no places: its cells have names, an Ins stands ahead of a named cell, a Hide covers named cells, a caret stands behind a named cell, and every row of cells is made anew from the first command on.

// cell: the n-th rune, from 1 on, that the Ins id put in. The cell{} is none: an Ins ahead of it stands at the end, a caret behind it at the beginning.
type cell struct {
	id api.ID
	n  int
}

// meant: a command by names.
type meant struct {
	api.Op
	ahead cell
	cover []cell
}

func runes(text string) int { return len([]rune(text)) }

// cells: those of an edit.
func (m meant) cells() []cell {
	if m.Kind != api.Ins {
		return m.cover
	}
	var out []cell
	for n := range runes(m.Text) {
		out = append(out, cell{m.ID, n + 1})
	}
	return out
}

// meaning: what an operation means where these cells are.
func meaning(row []cell, o api.Op) meant {
	m := meant{Op: op.Clone(o)}
	if o.Kind == api.Ins && o.At < len(row) {
		m.ahead = row[o.At]
	}
	for _, r := range o.Ranges {
		m.cover = append(m.cover, row[r.Lo:r.Hi]...)
	}
	return m
}

// form: the operation that means it where these cells are.
func (m meant) form(row []cell) api.Op {
	o := api.Op{Head: m.Head, Text: m.Text, Target: m.Target, On: m.On, Ranges: rangesOf(row, m.cover)}
	if m.Kind == api.Ins {
		o.At = m.place(row)
	}
	return o
}

// place: where an Ins stands in a row.
func (m meant) place(row []cell) int {
	if m.ahead == (cell{}) {
		return len(row)
	}
	return slices.Index(row, m.ahead)
}

// rangesOf: where the cells stand in the row.
func rangesOf(row, cells []cell) []api.Range {
	among := map[cell]int{}
	for _, c := range cells {
		among[c] = 1
	}
	var out []api.Range
	for q, c := range row {
		if among[c] == 0 {
			continue
		}
		if k := len(out) - 1; k >= 0 && out[k].Hi == q {
			out[k].Hi++
		} else {
			out = append(out, api.Range{Lo: q, Hi: q + 1})
		}
	}
	return out
}

// order: commands in a row, and what they show, as long as no other has come.
type order struct {
	list []meant
	memo *sight
}

// sight: what an order of commands shows.
type sight struct {
	ops    []api.Op // each in its context
	row    []cell
	on     map[api.ID]bool   // of each edit
	cells  map[api.ID][]cell // of each edit
	hid    map[cell]int
	letter map[cell]rune
}

// put: a command becomes number i.
func (w *order) put(i int, m meant) {
	w.list, w.memo = slices.Insert(slices.Clone(w.list), i, m), nil
}

// see: DOC.md's rules 1 to 5.
func (w *order) see() *sight {
	if w.memo == nil {
		w.memo = sightOf(w.list)
	}
	return w.memo
}

func sightOf(list []meant) *sight {
	s := &sight{on: map[api.ID]bool{}, cells: map[api.ID][]cell{}, hid: map[cell]int{}, letter: map[cell]rune{}}
	for _, m := range list {
		s.ops = append(s.ops, m.form(s.row))
		s.cells[m.ID] = m.cells()
		switch m.Kind {
		case api.Ins:
			s.row = slices.Insert(s.row, m.place(s.row), m.cells()...)
			for n, r := range []rune(m.Text) {
				s.letter[cell{m.ID, n + 1}] = r
			}
			s.on[m.ID] = true
		case api.Hide:
			s.on[m.ID] = true
		case api.Status:
			s.on[m.Target] = m.On
		}
	}
	for _, m := range list {
		if m.Kind == api.Ins && !s.on[m.ID] || m.Kind == api.Hide && s.on[m.ID] {
			for _, c := range m.cells() {
				s.hid[c]++
			}
		}
	}
	return s
}

// row: the cells that the first k commands make.
func (w *order) row(k int) []cell {
	if k == len(w.list) {
		return w.see().row
	}
	return sightOf(w.list[:k]).row
}

func (w *order) find(id api.ID) int {
	return slices.IndexFunc(w.list, func(m meant) bool { return m.ID == id })
}

// visible: the cells that are seen, in their order.
func (s *sight) visible() []cell {
	var out []cell
	for _, c := range s.row {
		if s.hid[c] == 0 {
			out = append(out, c)
		}
	}
	return out
}

func (s *sight) text() string {
	var b strings.Builder
	for _, c := range s.visible() {
		b.WriteRune(s.letter[c])
	}
	return b.String()
}

// by: how many commands the client has in the order, the number of the last one of them in the order (from 1 on), and how many cells they put in.
func (w *order) by(client int) (made, last, cells int) {
	for k, m := range w.list {
		if m.ID[0] == client {
			made, last, cells = made+1, k+1, cells+runes(m.Text)
		}
	}
	return made, last, cells
}

// fits: may o stand behind the first k commands? But for what only a great row can have against it.
func (w *order) fits(k int, o api.Op) api.Errno {
	if e := op.Check(o, len(w.row(k))); e != api.OK {
		return e
	}
	switch i := slices.IndexFunc(w.list[:k], func(m meant) bool { return m.ID == o.Target }); {
	case o.Kind == api.Show:
		return api.ErrKind
	case o.ID == api.ID{}:
		return api.ErrID
	case w.find(o.ID) >= 0:
		return api.ErrTwice
	case o.Kind == api.Status && i < 0:
		return api.ErrUnknown
	case o.Kind == api.Status && w.list[i].Kind == api.Status:
		return api.ErrTarget
	}
	return api.OK
}
