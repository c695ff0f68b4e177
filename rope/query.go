package rope

import (
	"iter"
	"strings"

	"redraft/api"
)

// Cell: the cell at a total place.
func (r *Rope) Cell(at int) (api.Cell, api.Errno) {
	if at < 0 || at >= r.Total() {
		return api.Cell{}, api.ErrPlace
	}
	return r.root.cell(at), api.OK
}

// TotalOf: the total place of the p-th visible cell; Total, if p is Shown.
func (r *Rope) TotalOf(p int) (int, api.Errno) {
	if p < 0 || p > r.Shown() {
		return 0, api.ErrPlace
	}
	if p == r.Shown() {
		return r.Total(), api.OK
	}
	return r.root.totalOf(p), api.OK
}

// ShownBefore: how many visible cells lie ahead of total place c.
func (r *Rope) ShownBefore(c int) (int, api.Errno) {
	if c < 0 || c > r.Total() {
		return 0, api.ErrPlace
	}
	return r.root.shownBefore(c), api.OK
}

// Visible: the total places of the visible cells lo to hi-1, normalised.
func (r *Rope) Visible(lo, hi int) ([]api.Range, api.Errno) {
	from, to, e := r.stretch(lo, hi)
	if e != api.OK {
		return nil, e
	}
	var list []api.Range
	for at, p := range r.pieces(from, to) {
		if p.shown() == 0 {
			continue
		}
		if last := len(list) - 1; last >= 0 && list[last].Hi == at {
			list[last].Hi = at + p.cells
			continue
		}
		if len(list) == api.MaxRanges {
			return nil, api.ErrMany
		}
		list = append(list, api.Range{Lo: at, Hi: at + p.cells})
	}
	return list, api.OK
}

// Text: the visible runes.
func (r *Rope) Text() string {
	return r.textOf(0, r.Total())
}

// Slice: the visible runes lo to hi-1.
func (r *Rope) Slice(lo, hi int) (string, api.Errno) {
	from, to, e := r.stretch(lo, hi)
	if e != api.OK {
		return "", e
	}
	return r.textOf(from, to), api.OK
}

// stretch: the total places between which just the visible cells lo to hi-1 and tombstones lie.
func (r *Rope) stretch(lo, hi int) (from, to int, e api.Errno) {
	if lo < 0 || lo > hi || hi > r.Shown() {
		return 0, 0, api.ErrPlace
	}
	if lo == hi {
		return 0, 0, api.OK
	}
	return r.root.totalOf(lo), r.root.totalOf(hi-1) + 1, api.OK
}

// textOf: the visible runes among the total places from to to-1.
func (r *Rope) textOf(from, to int) string {
	var b strings.Builder
	for _, p := range r.pieces(from, to) {
		if p.shown() > 0 {
			p.write(&b)
		}
	}
	return b.String()
}

// Runs: all cells, as the fewest runs.
func (r *Rope) Runs() []api.Run {
	var runs []api.Run
	var text strings.Builder
	hid := 0
	for at, p := range r.pieces(0, r.Total()) {
		if at > 0 && p.hid() != hid {
			runs = append(runs, api.Run{Text: text.String(), Hid: hid})
			text.Reset()
		}
		hid = p.hid()
		p.write(&text)
	}
	if text.Len() > 0 {
		runs = append(runs, api.Run{Text: text.String(), Hid: hid})
	}
	return runs
}

// Cells: total places and cells, from lo on.
func (r *Rope) Cells(lo int) iter.Seq2[int, api.Cell] {
	pieces := r.pieces(lo, r.Total())
	return func(yield func(int, api.Cell) bool) {
		for at, p := range pieces {
			for i, c := range p.runes {
				if !yield(at+i, api.Cell{Rune: c, Hid: p.hid()}) {
					return
				}
			}
		}
	}
}

// pieces: what lies among the total places lo to hi-1 of the tree that r has now, piece by piece, the outermost ones cut down to these places.
func (r *Rope) pieces(lo, hi int) iter.Seq2[int, *node] {
	root := r.root
	return func(yield func(int, *node) bool) {
		root.give(0, lo, hi, yield)
	}
}
