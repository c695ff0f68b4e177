package stacks_test

import (
	"math"
	"testing"

	"redraft/api"
	"redraft/stacks"
)

func TestP7_2New(t *testing.T) {
	a, b := stacks.New(), stacks.New()
	if a == b {
		t.Fatal("P7.2: New answers the same stacks twice")
	}
	holds(t, a, nil, nil, "P7.2: New")
	a.Did(api.ID{1, 1})
	holds(t, b, nil, nil, "P7.2: New, with others in use")
	holds(t, stacks.New(), nil, nil, "P7.2: a later New")
	if e := b.Did(api.ID{1, 1}); e != api.OK {
		t.Errorf("P7.2: Did of what stands in other stacks = %d", e)
	}
}

func TestP7_3Bounds(t *testing.T) {
	h, s := lettered(t)
	moves(t, s, false, h, api.ID{1, 3}, api.OK)
	wrong := map[int][]int{
		0: {math.MinInt, -api.MaxClients, -1, 0, api.MaxClients + 1, api.MaxOps, math.MaxInt},
		1: {math.MinInt, -api.MaxOps, -1, 0, api.MaxOps + 1, math.MaxInt},
	}
	for part, numbers := range wrong {
		for _, n := range numbers {
			for _, other := range []int{1, 2, api.MaxClients} {
				id := api.ID{other, other}
				id[part] = n
				if e := s.Did(id); e != api.ErrID {
					t.Errorf("P7.3: Did(%v) = %d, want ErrID", id, e)
				}
			}
		}
	}
	for _, id := range []api.ID{{}, {math.MinInt, math.MaxInt}, {api.MaxClients + 1, api.MaxOps + 1}} {
		if e := s.Did(id); e != api.ErrID {
			t.Errorf("P7.3: Did(%v) = %d, want ErrID", id, e)
		}
	}
	holds(t, s, ids(1, 1, 2), ids(1, 3), "P7.1: Did refused")
}

func TestP7_3AtItsBounds(t *testing.T) {
	list := []api.ID{{1, 1}, {api.MaxClients, api.MaxOps}, {1, api.MaxOps}, {api.MaxClients, 1}, {api.MaxClients - 1, api.MaxOps - 1}}
	s := filled(t, list...)
	holds(t, s, list, nil, "P7.3: ids at their bounds")
}

func TestP7_3Twice(t *testing.T) {
	h, s := lettered(t)
	moves(t, s, false, h, api.ID{1, 3}, api.OK)
	turn(t, h, 1, api.ID{1, 3}, false)
	moves(t, s, false, h, api.ID{1, 2}, api.OK)
	holds(t, s, ids(1, 1), ids(1, 3, 2), "two Undos")
	for _, id := range ids(1, 1, 2, 3) {
		if e := s.Did(id); e != api.ErrTwice {
			t.Errorf("P7.3: Did(%v) = %d, want ErrTwice", id, e)
		}
		holds(t, s, ids(1, 1), ids(1, 3, 2), "P7.1: Did refused")
	}
	// Both parts of an id count, each at its own place.
	for _, id := range []api.ID{{2, 1}, {3, 1}} {
		if e := s.Did(id); e != api.OK {
			t.Errorf("P7.3: Did(%v) = %d", id, e)
		}
	}
}

func TestP7_3RedoEmptied(t *testing.T) {
	h, s := lettered(t)
	for _, n := range []int{3, 2} {
		moves(t, s, false, h, api.ID{1, n}, api.OK)
		turn(t, h, 1, api.ID{1, n}, false)
	}
	if e := s.Did(api.ID{1, 4}); e != api.OK {
		t.Fatalf("P7.3: Did = %d", e)
	}
	holds(t, s, ids(1, 1, 4), nil, "P7.3: Did")
	moves(t, s, true, h, api.ID{}, api.ErrStack)
	for _, id := range ids(1, 3, 2) {
		if e := s.Did(id); e != api.OK {
			t.Errorf("P7.3: Did(%v) of what was thrown away = %d", id, e)
		}
	}
	holds(t, s, ids(1, 1, 4, 3, 2), nil, "P7.3: what was thrown away comes again")
	if e := s.Did(api.ID{1, 3}); e != api.ErrTwice {
		t.Errorf("P7.3: Did of what came again = %d, want ErrTwice", e)
	}
	turn(t, h, 2, api.ID{1, 3}, true)
	moves(t, s, false, h, api.ID{1, 3}, api.OK)
	holds(t, s, ids(1, 1, 4, 2), ids(1, 3), "P7.4: what came again is undone")
}

func TestAllIDsOnce(t *testing.T) {
	s := stacks.New()
	var all []api.ID
	for number := 1; number <= api.MaxOps; number++ {
		for client := 1; client <= api.MaxClients; client++ {
			all = append(all, api.ID{client, number})
		}
	}
	for _, want := range []api.Errno{api.OK, api.ErrTwice} {
		for _, id := range all {
			if e := s.Did(id); e != want {
				t.Fatalf("P7.3: Did(%v) = %d, want %d", id, e, want)
			}
		}
	}
	holds(t, s, all, nil, "P7.6: all ids that there are")
}
