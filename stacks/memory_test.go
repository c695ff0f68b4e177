package stacks_test

import (
	"slices"
	"testing"

	"redraft/api"
	"redraft/stacks"
)

// scribble: all of a list is written over, spare room too.
func scribble(list []api.ID) {
	all := list[:cap(list)]
	for i := range all {
		all[i] = api.ID{-7, -8}
	}
}

// stacksOf: stacks of these sizes, both of which have held all the ids, so that they may have spare room.
func stacksOf(t *testing.T, undo, redo int) (*stacks.Stacks, *model) {
	t.Helper()
	s, m := stacks.New(), newModel()
	var list []api.ID
	on, off := map[api.ID]int{}, map[api.ID]int{}
	for n := range undo + redo {
		id := api.ID{1, n + 1}
		s.Did(id)
		m.did(id)
		list = append(list, id)
		on[id], off[id] = isOn, isOff
	}
	allOn, allOff := written(t, list, on), written(t, list, off)
	for range list {
		against(t, s, m, false, allOn, on)
	}
	for range list {
		against(t, s, m, true, allOff, off)
	}
	for range redo {
		against(t, s, m, false, allOn, on)
	}
	return s, m
}

func TestP7_1ListsAreNew(t *testing.T) {
	for undo := range 5 {
		for redo := range 5 {
			s, m := stacksOf(t, undo, redo)
			wantU, wantR := m.stack(false), m.stack(true)
			u, r := s.Lists()
			u2, r2 := s.Lists()
			scribble(u)
			holds(t, s, wantU, wantR, "P7.1: undo written over")
			if !slices.Equal(r, wantR) || !slices.Equal(u2, wantU) || !slices.Equal(r2, wantR) {
				t.Fatalf("P7.1: lists share memory: %v; %v; %v", r, u2, r2)
			}
			scribble(r)
			holds(t, s, wantU, wantR, "P7.1: redo written over")
			if !slices.Equal(u2, wantU) || !slices.Equal(r2, wantR) {
				t.Fatalf("P7.1: lists share memory: %v; %v", u2, r2)
			}
			_ = append(u2, api.ID{7, 7})
			_ = append(r2, api.ID{7, 8})
			holds(t, s, wantU, wantR, "P7.1: lists appended to")
		}
	}
}

// What a caller has in hand stays as it was, whatever the stacks go through.
func TestP7_6ListsStay(t *testing.T) {
	h, s := lettered(t)
	moves(t, s, false, h, api.ID{1, 3}, api.OK)
	turn(t, h, 1, api.ID{1, 3}, false)
	u, r := s.Lists()
	moves(t, s, false, h, api.ID{1, 2}, api.OK)
	turn(t, h, 1, api.ID{1, 2}, false)
	moves(t, s, true, h, api.ID{1, 2}, api.OK)
	moves(t, s, true, h, api.ID{1, 3}, api.OK)
	if e := s.Did(api.ID{1, 7}); e != api.OK {
		t.Errorf("P7.3: Did = %d", e)
	}
	if !slices.Equal(u, ids(1, 1, 2)) || !slices.Equal(r, ids(1, 3)) {
		t.Errorf("P7.6: what Lists handed out has become %v; %v", u, r)
	}
	holds(t, s, ids(1, 1, 2, 3, 7), nil, "behind all")
}
