package annals

import (
	"iter"
	"slices"
	"strings"

	"redraft/api"
	"redraft/desk"
	"redraft/utext"
)

// At: the text of the first k commands.
func At(r *desk.Replica, k int) (string, api.Errno) {
	if r == nil {
		return "", api.ErrHandle
	}
	if k < 0 || k > r.Len() {
		return "", api.ErrPlace
	}
	p := pastOf(r)
	return p.row.shown(p.behind(k)), api.OK
}

// Changes: how the text of the first lo commands became that of the first hi: all cells that are visible in one of the two, as the fewest changes.
func Changes(r *desk.Replica, lo, hi int) ([]api.Change, api.Errno) {
	if r == nil {
		return nil, api.ErrHandle
	}
	if lo < 0 || lo > hi || hi > r.Len() {
		return nil, api.ErrPlace
	}
	p := pastOf(r)
	was, is := p.behind(lo), p.behind(hi)
	var list []api.Change
	for _, g := range grouped(p.row, func(cell int) (marks, bool) {
		m := marks{was: was[cell] == 0, is: is[cell] == 0}
		return m, m.was || m.is
	}) {
		list = append(list, api.Change{Text: string(g.text), Was: g.kind.was, Is: g.kind.is})
	}
	return list, api.OK
}

// marks: was a cell visible, and is it?
type marks struct {
	was, is bool
}

// Replay: how many commands, and the text of so many, from none to all.
func Replay(r *desk.Replica) iter.Seq2[int, string] {
	if r == nil {
		return func(func(int, string) bool) {}
	}
	p := pastOf(r)
	return func(yield func(int, string) bool) {
		hid := p.behind(0) // each time anew: the sequence may be gone through inside itself
		if !yield(0, p.row.shown(hid)) {
			return
		}
		for i, t := range p.turns {
			t.apply(hid)
			if !yield(i+1, p.row.shown(hid)) {
				return
			}
		}
	}
}

// First: the least k from which on, up to all commands, the text of the first k holds that piece of text; ErrUnknown: the whole text does not hold it.
func First(r *desk.Replica, text string) (int, api.Errno) {
	if r == nil {
		return 0, api.ErrHandle
	}
	if _, _, e := utext.Check(text); e != api.OK {
		return 0, e
	}
	if !strings.Contains(r.Text(), text) {
		return 0, api.ErrUnknown
	}
	first := 0
	for k, whole := range Replay(r) {
		if !strings.Contains(whole, text) {
			first = k + 1
		}
	}
	return first, api.OK
}

// past: a view's cells, and what each of its commands did to their counters. No command takes a cell out or past another, so the cells behind any number of commands are among today's, in today's order.
type past struct {
	row   cells
	turns []turn
}

func pastOf(r *desk.Replica) past {
	return past{row: cellsOf(r), turns: turns(commands(r))}
}

// behind: the counters of today's cells behind k commands. A cell that is not there yet counts as one that is hidden: nobody sees either.
func (p past) behind(k int) []int {
	hid := slices.Repeat([]int{1}, len(p.row.hid))
	for _, t := range p.turns[:k] {
		t.apply(hid)
	}
	return hid
}

// turn: that counters of cells go up or down. The places are today's.
type turn struct {
	places []api.Range
	by     int
}

func (t turn) apply(hid []int) {
	for _, p := range t.places {
		for cell := p.Lo; cell < p.Hi; cell++ {
			hid[cell] += t.by
		}
	}
}

// edit: an Ins or a Hide, on or off, and what it does when it is turned on. As long as it is not made it is off; so to make it is to turn it on.
type edit struct {
	onto turn
	on   bool
}

// turned: what it does if it is turned on or off now: nothing, if it stands so already.
func (e *edit) turned(on bool) turn {
	if e.on == on {
		return turn{}
	}
	e.on = on
	if on {
		return e.onto
	}
	return turn{places: e.onto.places, by: -e.onto.by}
}

// turns: of each command what it did when it was the last one of its order.
func turns(commands []api.Entry) []turn {
	edits := map[api.ID]*edit{}
	list := make([]turn, 0, len(commands))
	for _, c := range commands {
		id, on := c.ID, true
		switch c.Kind {
		case api.Ins:
			edits[id] = &edit{onto: turn{places: c.Ranges, by: -1}}
		case api.Hide:
			edits[id] = &edit{onto: turn{places: c.Ranges, by: 1}}
		default:
			id, on = c.Target, c.On
		}
		list = append(list, edits[id].turned(on))
	}
	return list
}
