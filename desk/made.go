package desk

import (
	"strings"

	"redraft/api"
	"redraft/history"
	"redraft/op"
	"redraft/utext"
)

// Insert: the text ahead of the p-th visible cell.
func (d *Desk) Insert(p int, text string) (o api.Op, err error) {
	defer func() { err = caught(recover()) }()
	return d.insert(asked{"Insert", p}, p, text), nil
}

func (d *Desk) insert(a asked, p int, text string) api.Op {
	at, e := d.row.TotalOf(p)
	a.hold(e)
	n, _, e := utext.Check(text)
	a.hold(e)
	a.refuse(n == 0, api.ErrEmpty)
	a.refuse(n > api.MaxText, api.ErrLong)
	id := d.next(a)
	a.refuse(n > d.cellsLeft(d.user), api.ErrCells)
	o := api.Op{Head: api.Head{ID: id, Kind: api.Ins}, At: at, Text: strings.Clone(text)}
	d.edit(a, o)
	d.caret = at + n
	return o
}

// Delete: the n visible cells from p on.
func (d *Desk) Delete(p, n int) (o api.Op, err error) {
	defer func() { err = caught(recover()) }()
	return d.hide(asked{"Delete", p}, p, n), nil
}

func (d *Desk) hide(a asked, p, n int) api.Op {
	a.refuse(p < 0 || n < 0 || n > d.Shown()-p, api.ErrPlace)
	a.refuse(n == 0, api.ErrEmpty)
	id := d.next(a)
	list, e := d.row.Visible(p, p+n)
	a.hold(e)
	o := api.Op{Head: api.Head{ID: id, Kind: api.Hide}, Ranges: list}
	d.edit(a, o)
	d.caret = d.gapAt(p)
	return o
}

// Move: the caret ahead of the p-th visible cell.
func (d *Desk) Move(p int) (err error) {
	defer func() { err = caught(recover()) }()
	asked{"Move", p}.refuse(p < 0 || p > d.Shown(), api.ErrPlace)
	d.caret = d.gapAt(p)
	return nil
}

// gapAt: of the gaps with p visible cells ahead of them the first one, ahead of all tombstones that stand there. There are p visible cells or more.
func (d *Desk) gapAt(p int) int {
	if p == 0 {
		return 0
	}
	last, _ := d.row.TotalOf(p - 1)
	return last + 1
}

// Undo: by the user's stacks.
func (d *Desk) Undo() (o api.Op, err error) {
	defer func() { err = caught(recover()) }()
	return d.step(asked{"Undo", 0}, d.stacks.Undo, false), nil
}

// Redo: by the user's stacks.
func (d *Desk) Redo() (o api.Op, err error) {
	defer func() { err = caught(recover()) }()
	return d.step(asked{"Redo", 0}, d.stacks.Redo, true), nil
}

// step: what the stacks pick is turned. The pick changes the stacks, so all that may be refused is asked ahead of it.
func (d *Desk) step(a asked, pick func(*history.History) (api.ID, api.Errno), on bool) api.Op {
	id := d.next(a)
	target, e := pick(d.past)
	a.hold(e)
	return d.turn(a, id, target, on)
}

// Turn: any command of the view on or off.
func (d *Desk) Turn(id api.ID, on bool) (o api.Op, err error) {
	defer func() { err = caught(recover()) }()
	a := asked{"Turn", 0}
	own := d.next(a)
	_, e := d.past.Effect(id, on)
	a.hold(e)
	return d.turn(a, own, id, on), nil
}

// turn: a Status of the user on an edit that stands the other way. The caret goes behind what has come back, or to where something has gone.
func (d *Desk) turn(a asked, id, target api.ID, on bool) api.Op {
	o := api.Op{Head: api.Head{ID: id, Kind: api.Status}, Target: target, On: on}
	effect := d.add(a, o)
	cells := effect.Ranges
	if effect.Kind == api.Show {
		d.caret = cells[len(cells)-1].Hi
	} else {
		d.caret = cells[0].Lo
	}
	return o
}

// next: the id of the user's next command.
func (d *Desk) next(a asked) api.ID {
	made := d.past.Last(d.user)
	a.refuse(made >= d.lim.Ops, api.ErrOps)
	return api.ID{d.user, made + 1}
}

// cellsLeft: how many cells this client may still put in.
func (d *Desk) cellsLeft(client int) int { return d.lim.Cells - d.cells[client] }

// edit: a new Ins or Hide of the user, which may be undone.
func (d *Desk) edit(a asked, o api.Op) {
	d.add(a, o)
	d.stacks.Did(o.ID)
}

// add: a command of the user behind all others; its effect. All that could be wrong with it has been asked by now.
func (d *Desk) add(a asked, o api.Op) api.Op {
	effect, err := d.Put(d.Len(), o)
	a.hold(api.Code(err))
	d.cells[d.user] += op.Width(o)
	return effect
}
