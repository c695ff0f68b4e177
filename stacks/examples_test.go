package stacks_test

import (
	"testing"

	"redraft/api"
	"redraft/history"
	"redraft/stacks"
)

// lettered: the worked examples' history, and the stacks of the user who wrote it.
func lettered(t *testing.T) (*history.History, *stacks.Stacks) {
	t.Helper()
	h, s := history.New(), stacks.New()
	for i, text := range []string{"a", "b", "c"} {
		id := api.ID{1, i + 1}
		put(t, h, ins(id, i, text))
		if e := s.Did(id); e != api.OK {
			t.Fatalf("P7.3: Did(%v) = %d", id, e)
		}
	}
	holds(t, s, ids(1, 1, 2, 3), nil, "the examples' beginning")
	return h, s
}

func TestExamplesDid(t *testing.T) {
	_, s := lettered(t)
	for _, c := range []struct {
		id api.ID
		e  api.Errno
	}{{api.ID{1, 2}, api.ErrTwice}, {api.ID{0, 1}, api.ErrID}, {api.ID{1, 1025}, api.ErrID}} {
		if e := s.Did(c.id); e != c.e {
			t.Errorf("P7.3: Did(%v) = %d, want %d", c.id, e, c.e)
		}
	}
	holds(t, s, ids(1, 1, 2, 3), nil, "Did refused")
}

func TestExamplesMoves(t *testing.T) {
	h, s := lettered(t)
	moves(t, s, false, h, api.ID{1, 3}, api.OK)
	holds(t, s, ids(1, 1, 2), ids(1, 3), "the first Undo")
	turn(t, h, 1, api.ID{1, 3}, false)
	turn(t, h, 2, api.ID{1, 2}, false)
	moves(t, s, false, h, api.ID{1, 1}, api.OK)
	holds(t, s, ids(1, 2), ids(1, 3, 1), "the second Undo")
	turn(t, h, 1, api.ID{1, 1}, false)
	moves(t, s, false, h, api.ID{}, api.ErrStack)
	moves(t, s, true, h, api.ID{1, 1}, api.OK)
	holds(t, s, ids(1, 2, 1), ids(1, 3), "Redo")
	turn(t, h, 2, api.ID{1, 3}, true)
	moves(t, s, true, h, api.ID{}, api.ErrStack)
	moves(t, s, false, nil, api.ID{}, api.ErrHandle)
	holds(t, s, ids(1, 2, 1), ids(1, 3), "refused calls")

	if e := s.Did(api.ID{1, 9}); e != api.OK {
		t.Errorf("P7.3: Did of an id that the history does not have = %d", e)
	}
	holds(t, s, ids(1, 2, 1, 9), nil, "Did([1,9])")
	turn(t, h, 1, api.ID{1, 1}, true)
	moves(t, s, false, h, api.ID{1, 1}, api.OK)
	holds(t, s, ids(1, 2, 9), ids(1, 1), "Undo below the top")
	if e := s.Did(api.ID{1, 3}); e != api.OK {
		t.Errorf("P7.3: Did of what was thrown away = %d", e)
	}
	holds(t, s, ids(1, 2, 9, 3), nil, "Did([1,3])")
}

func TestExamplesPick(t *testing.T) {
	second := func(id api.ID) bool { return id[1] == 2 }
	yes := func(api.ID) bool { return true }
	for _, c := range []struct {
		list []api.ID
		ok   func(api.ID) bool
		id   api.ID
		at   int
		e    api.Errno
	}{
		{ids(1, 1, 2, 3), second, api.ID{1, 2}, 1, api.OK},
		{nil, yes, api.ID{}, 0, api.ErrStack},
		{nil, nil, api.ID{}, 0, api.ErrHandle},
	} {
		if id, at, e := stacks.Pick(c.list, c.ok); id != c.id || at != c.at || e != c.e {
			t.Errorf("P7.7: Pick(%v, ..) = %v, %d, %d, want %v, %d, %d", c.list, id, at, e, c.id, c.at, c.e)
		}
	}
}
