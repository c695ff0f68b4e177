package stacks_test

import (
	"math"
	"slices"
	"testing"

	"redraft/api"
	"redraft/stacks"
)

// picks: Pick says yes to just the id of the place yes (-1: to none), whatever else the list holds; it must answer this, and ask from the last to the first up to there.
func picks(t *testing.T, list []api.ID, yes int) {
	t.Helper()
	roomy := append(slices.Clone(list), api.ID{7, 7}, api.ID{7, 8})[:len(list)]
	was := slices.Clone(roomy[:cap(roomy)])
	var asked, want []api.ID
	id, at, e := stacks.Pick(roomy, func(id api.ID) bool {
		asked = append(asked, id)
		return len(asked) == len(list)-yes
	})
	stop, wantAt, wantE := yes, yes, api.OK
	var wantID api.ID
	if yes < 0 {
		stop, wantAt, wantE = 0, 0, api.ErrStack
	} else {
		wantID = list[yes]
	}
	for i := len(list) - 1; i >= stop; i-- {
		want = append(want, list[i])
	}
	if id != wantID || at != wantAt || e != wantE {
		t.Errorf("P7.7: Pick(%v), yes at %d = %v, %d, %d, want %v, %d, %d", list, yes, id, at, e, wantID, wantAt, wantE)
	}
	if !slices.Equal(asked, want) {
		t.Errorf("P7.7: Pick(%v), yes at %d asks about %v, want %v", list, yes, asked, want)
	}
	if !slices.Equal(roomy[:cap(roomy)], was) {
		t.Errorf("P7.7: Pick(%v) has changed the list: %v", list, roomy)
	}
}

func TestP7_7Pick(t *testing.T) {
	// Any ids may stand in a list of Pick's, also twice and such as nothing has.
	whole := []api.ID{{1, 5}, {1, 2}, {}, {1, 2}, {-3, math.MinInt}, {8, 1024}, {}, {math.MaxInt, 0}}
	for n := range len(whole) + 1 {
		for yes := -1; yes < n; yes++ {
			picks(t, whole[:n], yes)
		}
	}
}

func TestP7_7NobodyToAsk(t *testing.T) {
	for _, list := range [][]api.ID{nil, {}, ids(1, 1), ids(1, 1, 2, 3)} {
		if id, at, e := stacks.Pick(list, nil); id != (api.ID{}) || at != 0 || e != api.ErrHandle {
			t.Errorf("P7.7: Pick(%v, nil) = %v, %d, %d, want ErrHandle", list, id, at, e)
		}
	}
}

func TestP7_7NoList(t *testing.T) {
	for _, list := range [][]api.ID{nil, {}, ids(1, 1, 2)[:0]} {
		asked := 0
		id, at, e := stacks.Pick(list, func(api.ID) bool { asked++; return true })
		if id != (api.ID{}) || at != 0 || e != api.ErrStack || asked != 0 {
			t.Errorf("P7.7: Pick of no list = %v, %d, %d, asked %d times, want ErrStack", id, at, e, asked)
		}
	}
}

func TestP7_7LongList(t *testing.T) {
	var long []api.ID
	for i := range 100000 {
		long = append(long, api.ID{i, -i})
	}
	id, at, e := stacks.Pick(long, func(id api.ID) bool { return id[0] == 1 })
	if id != (api.ID{1, -1}) || at != 1 || e != api.OK {
		t.Errorf("P7.7: Pick of a long list = %v, %d, %d", id, at, e)
	}
}
