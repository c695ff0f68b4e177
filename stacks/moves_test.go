package stacks_test

import (
	"testing"

	"redraft/api"
	"redraft/history"
	"redraft/stacks"
)

func TestP7_4P7_5NoHistory(t *testing.T) {
	h, s := lettered(t)
	for _, redo := range []bool{false, true} {
		moves(t, stacks.New(), redo, nil, api.ID{}, api.ErrHandle)
		moves(t, s, redo, nil, api.ID{}, api.ErrHandle)
	}
	holds(t, s, ids(1, 1, 2, 3), nil, "P7.1: no history")
	moves(t, s, false, h, api.ID{1, 3}, api.OK)
	turn(t, h, 1, api.ID{1, 3}, false)
	moves(t, s, true, nil, api.ID{}, api.ErrHandle)
	moves(t, s, false, nil, api.ID{}, api.ErrHandle)
	holds(t, s, ids(1, 1, 2), ids(1, 3), "P7.1: no history")
}

func TestP7_4P7_5EmptyStacks(t *testing.T) {
	h, _ := lettered(t)
	turn(t, h, 1, api.ID{1, 2}, false)
	for _, redo := range []bool{false, true} {
		s := stacks.New()
		moves(t, s, redo, h, api.ID{}, api.ErrStack)
		moves(t, s, redo, history.New(), api.ID{}, api.ErrStack)
		holds(t, s, nil, nil, "P7.1: empty stacks")
	}
	// What stands in the other stack does not count, though it is what is asked for.
	s := filled(t, ids(1, 1, 2, 3)...)
	moves(t, s, true, h, api.ID{}, api.ErrStack)
	holds(t, s, ids(1, 1, 2, 3), nil, "P7.5: Redo of an empty stack")
	s = filled(t, api.ID{1, 1})
	moves(t, s, false, h, api.ID{1, 1}, api.OK)
	moves(t, s, false, h, api.ID{}, api.ErrStack)
	holds(t, s, nil, ids(1, 1), "P7.4: Undo of an empty stack")
}

// eachTable: the ids are, one by one, each of the four that an id can be in a history.
func eachTable(list []api.ID, try func(is map[api.ID]int)) {
	count := 1
	for range list {
		count *= 4
	}
	for turn := range count {
		is := map[api.ID]int{}
		for _, id := range list {
			is[id] = turn % 4
			turn /= 4
		}
		try(is)
	}
}

// against: the call and the oracle's answer alike, and leave alike stacks and the same history.
func against(t *testing.T, s *stacks.Stacks, m *model, redo bool, h *history.History, is map[api.ID]int) {
	t.Helper()
	was := told(t, h)
	want, e := m.moved(redo, is)
	if id, f := move(s, redo, h); id != want || f != e {
		t.Errorf("%s where the ids are %v = %v, %d, want %v, %d", promise(redo), is, id, f, want, e)
	}
	agree(t, s, m, promise(redo))
	unchanged(t, h, was, promise(redo))
}

// Each id is on, off, a Status or not there: at the top, below it, everywhere.
func TestP7_4EachTable(t *testing.T) {
	for n := range 5 {
		list := ids(1, 4, 1, 3, 2)[:n]
		eachTable(list, func(is map[api.ID]int) {
			s, m := filled(t, list...), newModel()
			for _, id := range list {
				m.did(id)
			}
			against(t, s, m, false, written(t, list, is), is)
		})
	}
}

// reversed: stacks with the first few of the list in the undo stack and the others in the redo stack.
func reversed(t *testing.T, list []api.ID, undo int) (*stacks.Stacks, *model) {
	t.Helper()
	s, m := filled(t, list...), newModel()
	is := map[api.ID]int{}
	for i, id := range list {
		m.did(id)
		is[id] = isOff
		if i >= undo {
			is[id] = isOn
		}
	}
	h := written(t, list, is)
	for i := len(list) - 1; i >= undo; i-- {
		against(t, s, m, false, h, is)
	}
	holds(t, s, list[:undo], m.stack(true), "all that is on undone")
	return s, m
}

func TestP7_5EachTable(t *testing.T) {
	for n := range 5 {
		list := ids(1, 4, 1, 3, 2)[:n]
		for undo := range n + 1 {
			eachTable(list, func(is map[api.ID]int) {
				s, m := reversed(t, list, undo)
				against(t, s, m, true, written(t, list, is), is)
			})
		}
	}
}

// Two clients have the same numbers: an id is the whole of it.
func TestP7_4P7_5OthersIDs(t *testing.T) {
	list := []api.ID{{1, 1}, {2, 1}, {1, 2}, {2, 2}}
	eachTable(list, func(is map[api.ID]int) {
		s, m := filled(t, list...), newModel()
		for _, id := range list {
			m.did(id)
		}
		h := written(t, list, is)
		for range list {
			against(t, s, m, false, h, is)
		}
		for _, id := range list {
			if is[id] == isOn {
				turn(t, h, 3, id, false)
				is[id] = isOff
			}
		}
		for range len(list) + 1 {
			against(t, s, m, true, h, is)
		}
	})
}

// What is asked is the history of this call, as it stands now: none is kept.
func TestP7_1HistoryNotKept(t *testing.T) {
	list := ids(1, 1, 2, 3)
	all := written(t, list, map[api.ID]int{{1, 1}: isOn, {1, 2}: isOn, {1, 3}: isOn})
	first := written(t, list, map[api.ID]int{{1, 1}: isOn, {1, 2}: isOff, {1, 3}: missing})
	s := filled(t, list...)
	moves(t, s, false, all, api.ID{1, 3}, api.OK)
	moves(t, s, false, first, api.ID{1, 1}, api.OK)
	moves(t, s, false, first, api.ID{}, api.ErrStack)
	moves(t, s, true, first, api.ID{}, api.ErrStack)
	turn(t, first, 2, api.ID{1, 1}, false)
	moves(t, s, true, all, api.ID{}, api.ErrStack)
	moves(t, s, true, first, api.ID{1, 1}, api.OK)
	moves(t, s, true, history.New(), api.ID{}, api.ErrStack)
	turn(t, all, 2, api.ID{1, 3}, false)
	moves(t, s, true, all, api.ID{1, 3}, api.OK)
	holds(t, s, ids(1, 2, 1, 3), nil, "two histories in turns")
}

// A command that comes in ahead of others leaves the ids what they are, though all their numbers change.
func TestNumbersInTheHistoryMove(t *testing.T) {
	h, s := lettered(t)
	turn(t, h, 2, api.ID{1, 2}, false)
	if _, e := h.Put(0, ins(api.ID{3, 1}, 0, "new")); e != api.OK {
		t.Fatalf("Put = %d", e)
	}
	moves(t, s, false, h, api.ID{1, 3}, api.OK)
	moves(t, s, false, h, api.ID{1, 1}, api.OK)
	moves(t, s, true, h, api.ID{}, api.ErrStack)
	holds(t, s, ids(1, 2), ids(1, 3, 1), "a command ahead of all")
}
