package marks

import (
	"redraft/api"
	"redraft/desk"
	"redraft/utext"
)

// Shown: the visible places of a mark's visible cells, from the first to one behind the last, in a view; both the same, if none is visible.
func (b *Book) Shown(name string, r *desk.Replica) (lo, hi int, e api.Errno) {
	if r == nil {
		return 0, 0, api.ErrHandle
	}
	m, e := b.Mark(name)
	if e != api.OK {
		return 0, 0, e
	}
	if r.Total() != b.total {
		return 0, 0, api.ErrPlace
	}
	ahead := visibleAhead(r)
	return ahead[m.Lo], ahead[m.Hi], api.OK
}

// Text: the visible text of a mark.
func (b *Book) Text(name string, r *desk.Replica) (string, api.Errno) {
	lo, hi, e := b.Shown(name, r)
	if e != api.OK {
		return "", e
	}
	return utext.Slice(r.Text(), lo, hi)
}

// Sweep: the names of the marks of which no cell is visible in a view, in the order of Marks.
func (b *Book) Sweep(r *desk.Replica) ([]string, api.Errno) {
	if r == nil {
		return nil, api.ErrHandle
	}
	if r.Total() != b.total {
		return nil, api.ErrPlace
	}
	ahead := visibleAhead(r)
	return names(b.those(func(m api.Mark) bool { return ahead[m.Lo] == ahead[m.Hi] })), api.OK
}

// visibleAhead: of each total place, and of the end, how many visible cells stand ahead of it. (A list of ranges won't do: a view may have more stretches of visible cells than such a list may hold.)
func visibleAhead(r *desk.Replica) []int {
	list := make([]int, 1, r.Total()+1)
	n := 0
	for _, run := range r.Runs() {
		for range run.Text {
			if run.Hid == 0 {
				n++
			}
			list = append(list, n)
		}
	}
	return list
}
