// Package desk: a view (Replica) and one user's editor of it (Desk). Chapter 08.
package desk

import (
	"redraft/api"
	"redraft/history"
	"redraft/op"
	"redraft/rope"
)

// Replica: a view: commands in their order, and the cells that they make. (Server and Desk embed it.)
type Replica struct {
	past *history.History
	row  *rope.Rope
}

// NewReplica: an empty view.
func NewReplica() *Replica {
	return &Replica{past: history.New(), row: rope.New()}
}

// Put: command o, made behind the first i commands, becomes the i-th; the effect, in today's places.
func (r *Replica) Put(i int, o api.Op) (api.Op, error) {
	a := asked{"Put", i}
	if r.Len() >= api.MaxClients*api.MaxOps {
		return api.Op{}, a.fault(api.ErrOps)
	}
	effect, e := r.past.Put(i, o)
	if e == api.OK && effect.Kind != 0 {
		e = op.Apply(r.row, effect) // chapter 6, P6.11: no effect is refused
	}
	return effect, a.answer(e)
}

// Text: what is visible.
func (r *Replica) Text() string { return r.row.Text() }

// Shown: how many cells are visible.
func (r *Replica) Shown() int { return r.row.Shown() }

// Total: how many cells there are.
func (r *Replica) Total() int { return r.row.Total() }

// Runs: all cells.
func (r *Replica) Runs() []api.Run { return r.row.Runs() }

// Len: how many commands.
func (r *Replica) Len() int { return r.past.Len() }

// Entry: the i-th command.
func (r *Replica) Entry(i int) (api.Entry, error) {
	entry, e := r.past.Entry(i)
	return entry, asked{"Entry", i}.answer(e)
}

// Find: the number of the command of that id.
func (r *Replica) Find(id api.ID) (int, error) {
	i, e := r.past.Find(id)
	return i, asked{"Find", 0}.answer(e)
}

// Ops: the commands from lo to hi-1, each in the context of all that stand ahead of it.
func (r *Replica) Ops(lo, hi int) ([]api.Op, error) {
	run, e := r.past.Ops(lo, hi)
	return run, asked{"Ops", lo}.answer(e)
}

// Erase: as history's.
func (r *Replica) Erase(id api.ID) ([]api.Op, error) {
	run, e := r.past.Erase(id)
	return run, asked{"Erase", 0}.answer(e)
}
