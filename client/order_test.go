package client_test

import (
	"slices"
	"strings"

	"redraft/api"
	"redraft/op"
	"redraft/utext"
)

// The oracle carries nothing and keeps no places: its cells have names, an Ins stands ahead of a named cell, a Hide covers named cells, the caret stands behind a named cell, and every row of cells is made anew from the first command on.

// cell: the n-th rune, from 1 on, that the Ins id put in. The cell{} is none: an Ins ahead of it stands at the end, a caret behind it at the beginning.
type cell struct {
	id api.ID
	n  int
}

// meant: a command by names.
type meant struct {
	api.Op
	ahead cell
	cover []cell
}

type order []meant

func runes(text string) int { return len([]rune(text)) }

// row: the cells that the first k commands make.
func (w order) row(k int) []cell {
	var out []cell
	for _, m := range w[:k] {
		if m.Kind != api.Ins {
			continue
		}
		at := len(out)
		if m.ahead != (cell{}) {
			at = slices.Index(out, m.ahead)
		}
		out = slices.Insert(out, at, m.cells()...)
	}
	return out
}

func (w order) today() []cell { return w.row(len(w)) }

// cells: those of an edit.
func (m meant) cells() []cell {
	if m.Kind != api.Ins {
		return m.cover
	}
	var out []cell
	for n := range runes(m.Text) {
		out = append(out, cell{m.ID, n + 1})
	}
	return out
}

// meaning: what an operation means where these cells are.
func meaning(row []cell, o api.Op) meant {
	m := meant{Op: op.Clone(o)}
	if o.Kind == api.Ins && o.At < len(row) {
		m.ahead = row[o.At]
	}
	for _, r := range o.Ranges {
		m.cover = append(m.cover, row[r.Lo:r.Hi]...)
	}
	return m
}

// form: the operation that means it where these cells are.
func (m meant) form(row []cell) api.Op {
	o := api.Op{Head: m.Head, Text: m.Text, Target: m.Target, On: m.On, Ranges: rangesOf(row, m.cover)}
	if m.Kind == api.Ins {
		o.At = len(row)
		if m.ahead != (cell{}) {
			o.At = slices.Index(row, m.ahead)
		}
	}
	return o
}

// rangesOf: where the cells stand in the row.
func rangesOf(row, cells []cell) []api.Range {
	var out []api.Range
	for q, c := range row {
		if !slices.Contains(cells, c) {
			continue
		}
		if k := len(out) - 1; k >= 0 && out[k].Hi == q {
			out[k].Hi++
		} else {
			out = append(out, api.Range{Lo: q, Hi: q + 1})
		}
	}
	return out
}

func (w order) find(id api.ID) int {
	return slices.IndexFunc(w, func(m meant) bool { return m.ID == id })
}

// flag: is the edit on? The last Status on it says so.
func (w order) flag(id api.ID) bool {
	on := true
	for _, m := range w {
		if m.Kind == api.Status && m.Target == id {
			on = m.On
		}
	}
	return on
}

// counter: DOC.md's rule 1.
func (w order) counter(c cell) int {
	n := 0
	for _, m := range w {
		if m.Kind == api.Ins && m.ID == c.id && !w.flag(m.ID) || m.Kind == api.Hide && w.flag(m.ID) && slices.Contains(m.cover, c) {
			n++
		}
	}
	return n
}

func (w order) letter(c cell) rune { return []rune(w[w.find(c.id)].Text)[c.n-1] }

// visible: the cells that are seen, in their order.
func (w order) visible() []cell {
	return slices.DeleteFunc(w.today(), func(c cell) bool { return w.counter(c) > 0 })
}

func (w order) text() string {
	var b strings.Builder
	for _, c := range w.visible() {
		b.WriteRune(w.letter(c))
	}
	return b.String()
}

// runs: all cells as the fewest runs.
func (w order) runs() []api.Run {
	var out []api.Run
	for _, c := range w.today() {
		hid, text := w.counter(c), string(w.letter(c))
		if k := len(out) - 1; k >= 0 && out[k].Hid == hid {
			out[k].Text += text
		} else {
			out = append(out, api.Run{Text: text, Hid: hid})
		}
	}
	return out
}

// ops: all commands, each in its context.
func (w order) ops() []api.Op {
	var out []api.Op
	for i, m := range w {
		out = append(out, m.form(w.row(i)))
	}
	return out
}

func (w order) entry(i int) api.Entry {
	m := w[i]
	if m.Kind == api.Status {
		return api.Entry{ID: m.ID, Kind: m.Kind, On: m.On, Target: m.Target}
	}
	return api.Entry{ID: m.ID, Kind: m.Kind, On: w.flag(m.ID), Ranges: rangesOf(w.today(), m.cells())}
}

// putError: what P6.3 has against o as number i, but for what only a great row can have.
func (w order) putError(i int, o api.Op) api.Errno {
	if i < 0 || i > len(w) {
		return api.ErrPlace
	}
	if e := op.Check(o, len(w.row(i))); e != api.OK {
		return e
	}
	switch k := w[:i].find(o.Target); {
	case o.Kind == api.Show:
		return api.ErrKind
	case o.ID == api.ID{}:
		return api.ErrID
	case w.find(o.ID) >= 0:
		return api.ErrTwice
	case o.Kind == api.Status && k < 0:
		return api.ErrUnknown
	case o.Kind == api.Status && w[k].Kind == api.Status:
		return api.ErrTarget
	}
	return api.OK
}

func (w order) with(i int, m meant) order { return slices.Insert(slices.Clone(w), i, m) }

// model: what a desk must be.
type model struct {
	order
	user       int
	lim        api.Limits
	received   int
	left       cell // the caret stands right behind it
	undo, redo []api.ID
}

func newModel(user int, lim api.Limits) *model { return &model{user: user, lim: lim} }

// made: how many commands the client has in the view; put: how many cells.
func (m *model) made(client int) (n, put int) {
	for _, c := range m.order {
		if c.ID[0] == client {
			n, put = n+1, put+runes(c.Text)
		}
	}
	return n, put
}

func (m *model) opsSpent() bool {
	n, _ := m.made(m.user)
	return n >= m.lim.Ops
}

func (m *model) gap() int { return slices.Index(m.today(), m.left) + 1 }

func (m *model) caret() int {
	n := 0
	for _, c := range m.today()[:m.gap()] {
		if m.counter(c) == 0 {
			n++
		}
	}
	return n
}

// own: the user's next command, by names; what it is in its context.
func (m *model) own(c meant) (api.Op, api.Errno) {
	n, _ := m.made(m.user)
	c.ID = api.ID{m.user, n + 1}
	m.order = append(m.order, c)
	if c.Kind != api.Status {
		m.undo, m.redo = append(m.undo, c.ID), nil
	}
	return c.form(m.row(len(m.order) - 1)), api.OK
}

// leftOf: the cell p-1 of the visible ones.
func leftOf(visible []cell, p int) cell {
	if p == 0 {
		return cell{}
	}
	return visible[p-1]
}

func (m *model) insert(p int, text string) (api.Op, api.Errno) {
	v := m.visible()
	if p < 0 || p > len(v) {
		return api.Op{}, api.ErrPlace
	}
	n, _, e := utext.Check(text)
	_, put := m.made(m.user)
	switch {
	case e != api.OK:
		return api.Op{}, e
	case n == 0:
		return api.Op{}, api.ErrEmpty
	case n > 256:
		return api.Op{}, api.ErrLong
	case m.opsSpent():
		return api.Op{}, api.ErrOps
	case put+n > m.lim.Cells:
		return api.Op{}, api.ErrCells
	}
	c := meant{Op: api.Op{Head: api.Head{Kind: api.Ins}, Text: text}}
	if p < len(v) {
		c.ahead = v[p]
	}
	o, e := m.own(c)
	m.left = cell{o.ID, n}
	return o, e
}

func (m *model) delete(p, n int) (api.Op, api.Errno) {
	v := m.visible()
	switch {
	case p < 0 || n < 0 || uint64(p)+uint64(n) > uint64(len(v)): // two ints can't pass what a uint64 holds
		return api.Op{}, api.ErrPlace
	case n == 0:
		return api.Op{}, api.ErrEmpty
	case m.opsSpent():
		return api.Op{}, api.ErrOps
	}
	m.left = leftOf(v, p)
	return m.own(meant{Op: api.Op{Head: api.Head{Kind: api.Hide}}, cover: slices.Clone(v[p : p+n])})
}

func (m *model) move(p int) api.Errno {
	v := m.visible()
	if p < 0 || p > len(v) {
		return api.ErrPlace
	}
	m.left = leftOf(v, p)
	return api.OK
}

// step: Undo, or Redo.
func (m *model) step(redo bool) (api.Op, api.Errno) {
	if m.opsSpent() {
		return api.Op{}, api.ErrOps
	}
	from, to := &m.undo, &m.redo
	if redo {
		from, to = to, from
	}
	for k := len(*from) - 1; k >= 0; k-- {
		if id := (*from)[k]; m.flag(id) != redo {
			*from = slices.Delete(slices.Clone(*from), k, k+1)
			*to = append(slices.Clone(*to), id)
			return m.status(id, redo)
		}
	}
	return api.Op{}, api.ErrStack
}

func (m *model) turn(id api.ID, on bool) (api.Op, api.Errno) {
	k := m.find(id)
	switch {
	case m.opsSpent():
		return api.Op{}, api.ErrOps
	case k < 0:
		return api.Op{}, api.ErrUnknown
	case m.order[k].Kind == api.Status:
		return api.Op{}, api.ErrTarget
	case m.flag(id) == on:
		return api.Op{}, api.ErrTurned
	}
	return m.status(id, on)
}

// status: the user's own Status on an edit that stands the other way; the caret goes as rule 6 says.
func (m *model) status(id api.ID, on bool) (api.Op, api.Errno) {
	edit := m.order[m.find(id)]
	row := m.today()
	at := rangesOf(row, edit.cells())
	was := m.counter(edit.cells()[0])
	o, e := m.own(meant{Op: api.Op{Head: api.Head{Kind: api.Status}, Target: id, On: on}})
	if m.counter(edit.cells()[0]) < was {
		m.left = row[at[len(at)-1].Hi-1]
	} else {
		m.left = leftOf(row, at[0].Lo)
	}
	return o, e
}

func (m *model) take(o api.Op) api.Errno {
	_, put := m.made(o.ID[0])
	switch {
	case o.ID[0] == m.user || o.ID[0] < 1 || o.ID[0] > m.lim.Clients:
		return api.ErrUser
	case o.ID[1] > m.lim.Ops:
		return api.ErrOps
	case put+op.Width(o) > m.lim.Cells:
		return api.ErrCells
	}
	if e := m.putError(m.received, o); e != api.OK {
		return e
	}
	m.order = m.with(m.received, meaning(m.row(m.received), o))
	m.received++
	return api.OK
}

func (m *model) confirm(id api.ID) api.Errno {
	switch {
	case m.received == len(m.order):
		return api.ErrEmpty
	case m.order[m.received].ID != id:
		return api.ErrUnknown
	}
	m.received++
	return api.OK
}
