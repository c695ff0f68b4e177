package page

import (
	"redraft/api"
	"redraft/utext"
)

// noWish: that a caret wants to be at no column.
const noWish = -1

// walker: a caret that stands at a place of a sheet, and how it is to walk.
type walker struct {
	sheet
	at, want, how int
}

// Walk: where a caret at that rune place, that wants to be at a column, goes by a walk; and the column that it wants then.
func Walk(text string, width, at, want, how int) (to, wants int, e api.Errno) {
	s, e := lay(text, width, noHeight)
	if e != api.OK {
		return 0, 0, e
	}
	if !s.has(at) {
		return 0, 0, api.ErrPlace
	}
	walks := [...]func(walker) (to, wants int){
		walker.step, // left
		walker.step, // right
		walker.home,
		walker.end,
		walker.up,
		walker.down,
		walker.step, // word left
		walker.step, // word right
		walker.step, // top
		walker.step, // bottom
	}
	if how < 1 || how > len(walks) {
		return 0, 0, api.ErrWalk
	}
	to, wants = walks[how-1](walker{sheet: s, at: at, want: want, how: how})
	return to, wants, api.OK
}

// step goes where it would without rows.
func (w walker) step() (to, wants int) {
	to, _ = utext.Step(w.text, w.at, w.how) // its errors are those that Walk has asked for
	return to, noWish
}

func (w walker) home() (to, wants int) { return w.rows[w.rowOf(w.at)].Lo, noWish }

func (w walker) end() (to, wants int) { return w.rows[w.rowOf(w.at)].last(), noWish }

func (w walker) up() (to, wants int) {
	wants = w.wish()
	if row := w.rowOf(w.at); row > 0 {
		return w.find(row-1, wants), wants
	}
	return 0, wants
}

func (w walker) down() (to, wants int) {
	wants = w.wish()
	if row := w.rowOf(w.at); w.hasRow(row + 1) {
		return w.find(row+1, wants), wants
	}
	return w.runes, wants
}

// wish: the column that it wants, or its own, if it wants none.
func (w walker) wish() int {
	if w.want < 0 {
		return w.column(w.at)
	}
	return w.want
}
