package annals_test

import (
	"testing"

	"redraft/annals"
	"redraft/api"
)

// tally: of a client: commands, cells, visible ones, edits that are off, covered cells of others.
func tally(client, made, cells, visible, off, covers int) api.Tally {
	return api.Tally{Client: client, Made: made, Cells: cells, Visible: visible, Off: off, Covers: covers}
}

func TestP18_7Tallies(t *testing.T) {
	a := api.ID{1, 1}
	for _, c := range []struct {
		what string
		ops  []api.Op
		want []api.Tally
	}{
		{"one insert", []api.Op{ins(1, 1, 0, "abc")}, []api.Tally{tally(1, 1, 3, 3, 0, 0)}},
		{"by rising number, not in the order", []api.Op{ins(8, 1, 0, "abc"), ins(3, 1, 0, "x"), ins(5, 1, 0, "yz"), ins(1, 1, 0, "q")}, []api.Tally{tally(1, 1, 1, 1, 0, 0), tally(3, 1, 1, 1, 0, 0), tally(5, 1, 2, 2, 0, 0), tally(8, 1, 3, 3, 0, 0)}},
		{"only a Hide", []api.Op{ins(1, 1, 0, "abc"), hide(2, 1, 0, 2)}, []api.Tally{tally(1, 1, 3, 1, 0, 0), tally(2, 1, 0, 0, 0, 2)}},
		{"only a Hide that is off", []api.Op{ins(1, 1, 0, "abc"), hide(2, 1, 0, 2), off(1, 2, api.ID{2, 1})}, []api.Tally{tally(1, 2, 3, 3, 0, 0), tally(2, 1, 0, 0, 1, 0)}},
		{"a Hide on again", []api.Op{ins(1, 1, 0, "abc"), hide(2, 1, 0, 2), off(1, 2, api.ID{2, 1}), on(1, 3, api.ID{2, 1})}, []api.Tally{tally(1, 3, 3, 1, 0, 0), tally(2, 1, 0, 0, 0, 2)}},
		{"only Status commands", []api.Op{ins(1, 1, 0, "abc"), off(2, 1, a), on(2, 2, a)}, []api.Tally{tally(1, 1, 3, 3, 0, 0), tally(2, 2, 0, 0, 0, 0)}},
		{"a Status that says off is no edit", []api.Op{ins(1, 1, 0, "abc"), off(2, 1, a)}, []api.Tally{tally(1, 1, 3, 0, 1, 0), tally(2, 1, 0, 0, 0, 0)}},
		{"two edits off", []api.Op{ins(1, 1, 0, "abc"), hide(1, 2, 0, 1), off(2, 1, a), off(2, 2, api.ID{1, 2})}, []api.Tally{tally(1, 2, 3, 0, 2, 0), tally(2, 2, 0, 0, 0, 0)}},
		{"own cells are not covered", []api.Op{ins(1, 1, 0, "abc"), hide(1, 2, 0, 2)}, []api.Tally{tally(1, 2, 3, 1, 0, 0)}},
		{"own and others' cells", []api.Op{ins(1, 1, 0, "abc"), ins(2, 1, 1, "xy"), hide(2, 2, 0, 4)}, []api.Tally{tally(1, 1, 3, 1, 0, 0), tally(2, 2, 2, 0, 0, 2)}},
		{"by two Hides of one client, each cell once", []api.Op{ins(1, 1, 0, "abcd"), hide(2, 1, 0, 3), hide(2, 2, 1, 4)}, []api.Tally{tally(1, 1, 4, 0, 0, 0), tally(2, 2, 0, 0, 0, 4)}},
		{"one of two Hides off", []api.Op{ins(1, 1, 0, "abcd"), hide(2, 1, 0, 3), hide(2, 2, 1, 4), off(2, 3, api.ID{2, 1})}, []api.Tally{tally(1, 1, 4, 1, 0, 0), tally(2, 3, 0, 0, 1, 3)}},
		{"by the Hides of two clients", []api.Op{ins(1, 1, 0, "abcd"), hide(2, 1, 0, 3), hide(3, 1, 1, 4)}, []api.Tally{tally(1, 1, 4, 0, 0, 0), tally(2, 1, 0, 0, 0, 3), tally(3, 1, 0, 0, 0, 3)}},
		{"covered, and their Ins off too", []api.Op{ins(1, 1, 0, "abcd"), hide(2, 1, 0, 3), off(1, 2, a)}, []api.Tally{tally(1, 2, 4, 0, 1, 0), tally(2, 1, 0, 0, 0, 3)}},
		{"cells of two others", []api.Op{ins(1, 1, 0, "ab"), ins(2, 1, 2, "cd"), hide(3, 1, 1, 3)}, []api.Tally{tally(1, 1, 2, 1, 0, 0), tally(2, 1, 2, 1, 0, 0), tally(3, 1, 0, 0, 0, 2)}},
	} {
		s := viewOf(t, c.ops...)
		list, e := annals.Tallies(s.r)
		same(t, "P18.7: "+c.what, list, e, c.want, api.OK)
		agree(t, c.what, s.r, s.w)
	}
}

// The order in which a map is gone through is not seen: all eight clients, told again and again.
func TestP18_7Order(t *testing.T) {
	s := viewOf(t)
	for n, client := range []int{5, 2, 8, 1, 7, 3, 6, 4} {
		s.put(n, ins(client, 1, 0, "x"))
	}
	for range 50 {
		list, _ := annals.Tallies(s.r)
		for i, x := range list {
			if x != tally(i+1, 1, 1, 1, 0, 0) || len(list) != 8 {
				t.Fatalf("P18.7: Tallies = %v", list)
			}
		}
	}
}
