package annals

import (
	"strings"

	"redraft/api"
	"redraft/desk"
	"redraft/span"
)

// cells: the row of cells of a view as it stood when it was asked.
type cells struct {
	text   string // the runes of all of them
	starts []int  // the byte of text at which each begins, and behind the last one text's end
	hid    []int  // their counters
}

func cellsOf(r *desk.Replica) cells {
	var text strings.Builder
	row := cells{starts: make([]int, 0, r.Total()+1), hid: make([]int, 0, r.Total())}
	for _, run := range r.Runs() {
		for i := range run.Text {
			row.starts = append(row.starts, text.Len()+i)
			row.hid = append(row.hid, run.Hid)
		}
		text.WriteString(run.Text)
	}
	row.text = text.String()
	row.starts = append(row.starts, len(row.text))
	return row
}

// runes: those of the cells lo to hi-1.
func (row cells) runes(lo, hi int) string {
	return row.text[row.starts[lo]:row.starts[hi]]
}

// shown: the text that there is if the cells have these counters.
func (row cells) shown(hid []int) string {
	var text strings.Builder
	lo := 0
	for cell, n := range hid {
		if n == 0 {
			continue
		}
		if lo < cell { // whole stretches: a replay makes a text for each command
			text.WriteString(row.runes(lo, cell))
		}
		lo = cell + 1
	}
	text.WriteString(row.runes(lo, len(hid)))
	return text.String()
}

// group: cells of one kind that follow one another among those that are told.
type group[K comparable] struct {
	kind K
	text []byte
}

// grouped: the cells in their order as the fewest groups; those of which kind answers false are left out, and part nothing.
func grouped[K comparable](row cells, kind func(cell int) (K, bool)) []group[K] {
	var list []group[K]
	for cell := range row.hid {
		k, told := kind(cell)
		if !told {
			continue
		}
		if len(list) == 0 || list[len(list)-1].kind != k {
			list = append(list, group[K]{kind: k})
		}
		last := &list[len(list)-1]
		last.text = append(last.text, row.runes(cell, cell+1)...)
	}
	return list
}

// command: number i of the view.
func command(r *desk.Replica, i int) api.Entry {
	c, _ := r.Entry(i) // every number that is asked for here is one of the view's
	return c
}

// commands: all of the view, in their order.
func commands(r *desk.Replica) []api.Entry {
	list := make([]api.Entry, 0, r.Len())
	for i := range r.Len() {
		list = append(list, command(r, i))
	}
	return list
}

// makers: of each cell the id that it is by.
func makers(r *desk.Replica) []api.ID {
	by := make([]api.ID, r.Total())
	for _, c := range commands(r) {
		if c.Kind != api.Ins {
			continue
		}
		for cell := range span.Each(c.Ranges) {
			by[cell] = c.ID
		}
	}
	return by
}
