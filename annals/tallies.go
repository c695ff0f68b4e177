package annals

import (
	"maps"
	"slices"

	"redraft/api"
	"redraft/desk"
	"redraft/span"
)

// Tallies: what each client has done, by number; those that have a command in the view.
func Tallies(r *desk.Replica) ([]api.Tally, api.Errno) {
	if r == nil {
		return nil, api.ErrHandle
	}
	all, row := commands(r), cellsOf(r)
	byClient := map[int]api.Tally{}
	for _, c := range all {
		byClient[c.ID[0]] = counted(byClient[c.ID[0]], c, row.hid)
	}
	var list []api.Tally
	for _, client := range slices.Sorted(maps.Keys(byClient)) {
		t := byClient[client]
		t.Client = client
		t.Covers = covers(all, client, len(row.hid))
		list = append(list, t)
	}
	return list, api.OK
}

// counted: its client's tally with one command more.
func counted(t api.Tally, c api.Entry, hid []int) api.Tally {
	t.Made++
	if c.Kind != api.Status && !c.On {
		t.Off++
	}
	if c.Kind == api.Ins {
		n, _ := span.Count(c.Ranges) // what a view tells is normal
		t.Cells += n
		t.Visible += howMany(c.Ranges, func(cell int) bool { return hid[cell] == 0 })
	}
	return t
}

// covers: how many of the others' cells this client's Hides cover.
func covers(all []api.Entry, client, total int) int {
	covered := make([]int, total)
	for _, c := range all {
		if c.ID[0] == client && c.Kind == api.Hide && c.On {
			turn{places: c.Ranges, by: 1}.apply(covered)
		}
	}
	n := 0
	for _, c := range all {
		if c.ID[0] != client && c.Kind == api.Ins {
			n += howMany(c.Ranges, func(cell int) bool { return covered[cell] > 0 })
		}
	}
	return n
}

// howMany: of the cells at these places, those for which this is so.
func howMany(places []api.Range, so func(cell int) bool) int {
	n := 0
	for cell := range span.Each(places) {
		if so(cell) {
			n++
		}
	}
	return n
}
