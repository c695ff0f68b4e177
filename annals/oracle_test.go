package annals_test

import (
	"slices"
	"strings"

	"redraft/api"
	"redraft/op"
)

// The oracle carries nothing and keeps no places: its cells have names, an Ins stands ahead of a named cell, a Hide covers named cells, and every row of cells is made anew from the first command on.

// cell: the n-th rune, from 1 on, that the Ins id put in. The cell{} is none: an Ins ahead of it stands at the end.
type cell struct {
	id api.ID
	n  int
}

// meant: a command by names.
type meant struct {
	api.Op
	ahead cell
	cover []cell
}

type order []meant

// meaning: what an operation means where these cells are.
func meaning(row []cell, o api.Op) meant {
	m := meant{Op: op.Clone(o)}
	if o.Kind == api.Ins && o.At < len(row) {
		m.ahead = row[o.At]
	}
	for _, r := range o.Ranges {
		m.cover = append(m.cover, row[r.Lo:r.Hi]...)
	}
	return m
}

// row: the cells that the commands make.
func (w order) row() []cell {
	var out []cell
	for _, m := range w {
		if m.Kind != api.Ins {
			continue
		}
		at := len(out)
		if m.ahead != (cell{}) {
			at = slices.Index(out, m.ahead)
		}
		var own []cell
		for n := range []rune(m.Text) {
			own = append(own, cell{m.ID, n + 1})
		}
		out = slices.Insert(out, at, own...)
	}
	return out
}

// flag: is the edit on? The last Status on it says so.
func (w order) flag(id api.ID) bool {
	on := true
	for _, m := range w {
		if m.Kind == api.Status && m.Target == id {
			on = m.On
		}
	}
	return on
}

// seen: a cell as a view has it: its rune, and for which edits it is hidden.
type seen struct {
	cell
	letter string
	hiders []api.ID
}

func (s seen) visible() bool { return len(s.hiders) == 0 }

// sight: the cells behind these commands, in their order.
func (w order) sight() []seen {
	var out []seen
	for _, c := range w.row() {
		s := seen{cell: c}
		for _, m := range w {
			if m.Kind == api.Ins && m.ID == c.id {
				s.letter = string([]rune(m.Text)[c.n-1])
				if !w.flag(m.ID) {
					s.hiders = append([]api.ID{m.ID}, s.hiders...)
				}
			}
			if m.Kind == api.Hide && w.flag(m.ID) && slices.Contains(m.cover, c) {
				s.hiders = append(s.hiders, m.ID)
			}
		}
		out = append(out, s)
	}
	return out
}

// model: a view by the oracle: what it is behind each number of its commands.
type model struct {
	w      order
	behind [][]seen
}

func modelOf(w order) model {
	m := model{w: w}
	for k := range len(w) + 1 {
		m.behind = append(m.behind, w[:k].sight())
	}
	return m
}

func (m model) now() []seen { return m.behind[len(m.w)] }

// visible: the visible cells of the view.
func (m model) visible() []seen {
	return slices.DeleteFunc(slices.Clone(m.now()), func(s seen) bool { return !s.visible() })
}

func (m model) blame() []api.Piece {
	var out []api.Piece
	for _, s := range m.visible() {
		if k := len(out) - 1; k >= 0 && out[k].ID == s.id {
			out[k].Text += s.letter
		} else {
			out = append(out, api.Piece{ID: s.id, Text: s.letter})
		}
	}
	return out
}

func (m model) author(p int) (api.ID, api.Errno) {
	list := m.visible()
	if p < 0 || p >= len(list) {
		return api.ID{}, api.ErrPlace
	}
	return list[p].id, api.OK
}

func (m model) hiders(at int) ([]api.ID, api.Errno) {
	if at < 0 || at >= len(m.now()) {
		return nil, api.ErrPlace
	}
	return m.now()[at].hiders, api.OK
}

func (m model) at(k int) (string, api.Errno) {
	if k < 0 || k > len(m.w) {
		return "", api.ErrPlace
	}
	text := ""
	for _, s := range m.behind[k] {
		if s.visible() {
			text += s.letter
		}
	}
	return text, api.OK
}

func (m model) changes(lo, hi int) ([]api.Change, api.Errno) {
	if lo < 0 || hi > len(m.w) || lo > hi {
		return nil, api.ErrPlace
	}
	var out []api.Change
	for _, s := range m.behind[hi] {
		old := slices.IndexFunc(m.behind[lo], func(x seen) bool { return x.cell == s.cell })
		one := api.Change{Text: s.letter, Was: old >= 0 && m.behind[lo][old].visible(), Is: s.visible()}
		if !one.Was && !one.Is {
			continue
		}
		if k := len(out) - 1; k >= 0 && out[k].Was == one.Was && out[k].Is == one.Is {
			out[k].Text += one.Text
		} else {
			out = append(out, one)
		}
	}
	return out, api.OK
}

func (m model) tallies() []api.Tally {
	var out []api.Tally
	for client := 1; client <= api.MaxClients; client++ {
		t := api.Tally{Client: client}
		for _, c := range m.w {
			if c.ID[0] != client {
				continue
			}
			t.Made++
			if c.Kind != api.Status && !m.w.flag(c.ID) {
				t.Off++
			}
		}
		for _, s := range m.now() {
			own := s.id[0] == client
			if own {
				t.Cells++
			}
			if own && s.visible() {
				t.Visible++
			}
			if !own && m.covered(s.cell, client) {
				t.Covers++
			}
		}
		if t.Made > 0 {
			out = append(out, t)
		}
	}
	return out
}

// covered: does a Hide of the client's that is on cover this cell?
func (m model) covered(c cell, client int) bool {
	return slices.ContainsFunc(m.w, func(h meant) bool {
		return h.Kind == api.Hide && h.ID[0] == client && m.w.flag(h.ID) && slices.Contains(h.cover, c)
	})
}

// first: of what is a text.
func (m model) first(text string) (int, api.Errno) {
	least := len(m.w) + 1
	for least > 0 && strings.Contains(m.text(least-1), text) {
		least--
	}
	if least > len(m.w) {
		return 0, api.ErrUnknown
	}
	return least, api.OK
}

func (m model) text(k int) string {
	s, _ := m.at(k)
	return s
}
