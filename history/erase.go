package history

import (
	"slices"

	"redraft/api"
	"redraft/xform"
)

// Erase: all commands but this one and the status commands that turn it, each in the context of those that are left ahead of it; ErrInside, if a later one stands on or covers its cells.
func (h *History) Erase(id api.ID) ([]api.Op, api.Errno) {
	i, e := h.findEdit(id)
	if e != api.OK {
		return nil, e
	}
	run := slices.DeleteFunc(slices.Clone(h.ops[i:]), func(o api.Op) bool { return o.Target == id })
	// Each one past which the edit is brought stands then as if the edit had not been ahead of it.
	run, e = xform.Bring(run, 0, len(run)-1)
	if e != api.OK {
		return nil, e
	}
	return append(cloned(h.ops[:i]), run[:len(run)-1]...), api.OK
}
