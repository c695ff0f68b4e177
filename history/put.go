package history

import (
	"slices"

	"redraft/api"
	"redraft/op"
	"redraft/span"
	"redraft/xform"
)

// Put: command o, made behind the first i commands, becomes the i-th (from 0); the later ones are carried over it. The effect: what it does to the cells as they stand now, in today's places (an Ins or Hide carried over the later ones, a Hide or Show of a Status; Kind 0: nothing).
func (h *History) Put(i int, o api.Op) (api.Op, api.Errno) {
	if e := h.check(i, o); e != api.OK {
		return api.Op{}, e
	}
	// There is room for all cells by now, so all that can still be wrong is that ranges are split into too many. Contexts grow up to today: what is not too many today is not too many anywhere.
	first, later, e := xform.Cross([]api.Op{o}, h.ops[i:])
	if e != api.OK {
		return api.Op{}, e
	}
	effect := first[0]
	effect.ID = api.ID{}
	if o.Kind == api.Ins {
		n := op.Width(o)
		if h.overfull(effect.At, n) {
			return api.Op{}, api.ErrMany
		}
		h.carry(effect.At, n)
		h.total += n
	}
	h.now = slices.Insert(h.now, i, state{on: o.On || o.Kind != api.Status, places: op.Covers(effect)})
	h.ops = append(append(h.ops[:i], op.Clone(o)), later...)
	for k := i; k < len(h.ops); k++ {
		h.number[h.ops[k].ID] = k
	}
	if o.Kind == api.Status {
		effect = h.turn(i)
	}
	return effect, api.OK
}

// check: the errors of Put, but for too many ranges, which only the carrying itself can find.
func (h *History) check(i int, o api.Op) api.Errno {
	if i < 0 || i > len(h.ops) {
		return api.ErrPlace
	}
	if e := op.Check(o, h.cellsAhead(i)); e != api.OK {
		return e
	}
	_, twice := h.number[o.ID]
	switch {
	case o.Kind == api.Show:
		return api.ErrKind
	case o.ID == api.ID{}:
		return api.ErrID
	case twice:
		return api.ErrTwice
	case o.Kind == api.Status:
		return h.checkTarget(i, o.Target)
	case h.total+op.Width(o) > api.MaxPlace: // both are bounded: the sum can't wrap round
		return api.ErrGrow
	}
	return api.OK
}

// checkTarget: may a Status that becomes number i turn this one?
func (h *History) checkTarget(i int, target api.ID) api.Errno {
	k, e := h.Find(target)
	switch {
	case e != api.OK || k >= i:
		return api.ErrUnknown
	case h.ops[k].Kind == api.Status:
		return api.ErrTarget
	}
	return api.OK
}

// cellsAhead: how many cells the first i commands put in. It counts from the end, because new commands come in there or near to it.
func (h *History) cellsAhead(i int) int {
	n := h.total
	for _, o := range h.ops[i:] {
		n -= op.Width(o)
	}
	return n
}

// overfull: would an insert of n cells at at split the places of some edit into too many ranges? It makes one range of a list two at most, so that only full lists are in danger.
func (h *History) overfull(at, n int) bool {
	return slices.ContainsFunc(h.now, func(now state) bool {
		if len(now.places) < api.MaxRanges {
			return false
		}
		_, e := span.Through(now.places, at, n)
		return e != api.OK
	})
}

// carry: the places of all edits go through an insert of n cells at at.
func (h *History) carry(at, n int) {
	for k, now := range h.now {
		if endsBy(now.places, at) {
			continue
		}
		h.now[k].places, _ = span.Through(now.places, at, n)
	}
}

// endsBy: do all places lie ahead of at, so that an insert there leaves them? It is asked to save time: people type behind most of what has been typed.
func endsBy(places []api.Range, at int) bool {
	return len(places) == 0 || places[len(places)-1].Hi <= at
}

// turn: the Status number i, which is new, turns its target, unless another one behind it decides or it stands so already. What that does to the cells.
func (h *History) turn(i int) api.Op {
	o := h.ops[i]
	target := h.number[o.Target]
	decided := slices.ContainsFunc(h.ops[i+1:], func(p api.Op) bool { return p.Target == o.Target })
	if decided || h.now[target].on == o.On {
		return api.Op{}
	}
	h.now[target].on = o.On
	return h.turning(target, o.On)
}
