package stacks_test

import (
	"math/rand"
	"slices"
	"testing"

	"redraft/api"
	"redraft/history"
	"redraft/stacks"
)

// world: stacks, their oracle, a history, and what the ids are there.
type world struct {
	t    *testing.T
	s    *stacks.Stacks
	m    *model
	h    *history.History
	is   map[api.ID]int
	made []api.ID // the edits
}

func newWorld(t *testing.T) *world {
	w := &world{t, stacks.New(), newModel(), history.New(), map[api.ID]int{}, nil}
	put(t, w.h, ins(ground, 0, "ground"))
	return w
}

// edit: the user's next command, an Ins or a Hide.
func (w *world) edit(rnd *rand.Rand) {
	w.t.Helper()
	id := api.ID{1, w.h.Last(1) + 1}
	at := rnd.Intn(w.h.Total())
	o := ins(id, at, "xy")
	if rnd.Intn(2) == 0 {
		o = hide(id, at, at+1)
	}
	put(w.t, w.h, o)
	w.is[id] = isOn
	w.made = append(w.made, id)
	w.did(id)
}

func (w *world) did(id api.ID) {
	w.t.Helper()
	if e, want := w.s.Did(id), w.m.did(id); e != want {
		w.t.Fatalf("P7.3: Did(%v) = %d, want %d", id, e, want)
	}
	agree(w.t, w.s, w.m, "P7.3: Did")
}

// turned: somebody turns an edit.
func (w *world) turned(client int, id api.ID, on bool) {
	w.t.Helper()
	turn(w.t, w.h, client, id, on)
	status := api.ID{client, w.h.Last(client)}
	w.is[status] = named
	w.is[id] = isOff
	if on {
		w.is[id] = isOn
	}
}

// step: Undo or Redo; what it answers is turned, if the user goes on.
func (w *world) step(redo, follow bool) (api.ID, api.Errno) {
	w.t.Helper()
	before := w.h.Len()
	want, e := w.m.moved(redo, w.is)
	id, f := move(w.s, redo, w.h)
	if id != want || f != e || w.h.Len() != before {
		w.t.Fatalf("%s = %v, %d, want %v, %d", promise(redo), id, f, want, e)
	}
	agree(w.t, w.s, w.m, promise(redo))
	if follow && f == api.OK {
		w.turned(1, id, redo)
	}
	return id, f
}

func (w *world) some(rnd *rand.Rand) api.ID {
	if len(w.made) == 0 || rnd.Intn(6) == 0 {
		return api.ID{rnd.Intn(3) + 1, rnd.Intn(w.h.Len()+2) + 1}
	}
	return w.made[rnd.Intn(len(w.made))]
}

func (w *world) anything(rnd *rand.Rand) {
	w.t.Helper()
	switch rnd.Intn(8) {
	case 0, 1:
		w.edit(rnd)
	case 2:
		if id := w.some(rnd); w.is[id] >= isOn {
			w.turned(2+rnd.Intn(2), id, rnd.Intn(2) == 0)
		}
	case 3:
		if rnd.Intn(4) == 0 {
			w.did(w.some(rnd))
		}
	case 4, 5:
		w.step(false, rnd.Intn(8) > 0)
	default:
		w.step(true, rnd.Intn(8) > 0)
	}
}

func TestRandomScripts(t *testing.T) {
	for seed := range int64(150) {
		rnd := rand.New(rand.NewSource(seed))
		w := newWorld(t)
		for range 120 {
			w.anything(rnd)
		}
	}
}

// thereAndBack: up to k Undos that are not refused and k Redos behind them, with others at work on other edits.
func thereAndBack(t *testing.T, w *world, rnd *rand.Rand, k int) {
	t.Helper()
	undo, redo := w.s.Lists()
	var went []api.ID
	tops := true
	for len(went) < k {
		now, _ := w.s.Lists()
		id, e := w.step(false, true)
		if e != api.OK {
			break
		}
		tops = tops && now[len(now)-1] == id
		went = append(went, id)
		w.others(rnd, went)
	}
	slices.Reverse(went)
	for _, want := range went {
		w.others(rnd, went)
		if id, e := w.step(true, true); id != want || e != api.OK {
			t.Fatalf("P7.8: Redo = %v, %d, want %v", id, e, want)
		}
	}
	if tops {
		holds(t, w.s, undo, redo, "P7.8: there and back from the top")
	}
}

// others: somebody turns an edit that is none of these.
func (w *world) others(rnd *rand.Rand, none []api.ID) {
	w.t.Helper()
	if id := w.some(rnd); w.is[id] >= isOn && !slices.Contains(none, id) {
		w.turned(2, id, rnd.Intn(2) == 0)
	}
}

func TestP7_8ThereAndBack(t *testing.T) {
	for seed := range int64(200) {
		rnd := rand.New(rand.NewSource(seed))
		w := newWorld(t)
		for range 40 {
			w.anything(rnd)
		}
		thereAndBack(t, w, rnd, 1+rnd.Intn(12))
	}
}

// Nobody is passed over: both stacks are behind it as they were, for all numbers of steps.
func TestP7_8FromTheTop(t *testing.T) {
	for k := range 9 {
		w := newWorld(t)
		rnd := rand.New(rand.NewSource(int64(k)))
		for range 8 {
			w.edit(rnd)
		}
		undo, redo := w.s.Lists()
		var went, came []api.ID
		for range k {
			id, _ := w.step(false, true)
			went = append(went, id)
		}
		for range k {
			id, _ := w.step(true, true)
			came = append(came, id)
		}
		slices.Reverse(came)
		if !slices.Equal(went, came) || slices.Contains(went, api.ID{}) {
			t.Errorf("P7.8: %d Undos answer %v, the Redos, backwards, %v", k, went, came)
		}
		holds(t, w.s, undo, redo, "P7.8: there and back")
	}
}

// One is passed over: the ids come back all the same, but it stands below them now.
func TestP7_8PassedOver(t *testing.T) {
	w := newWorld(t)
	rnd := rand.New(rand.NewSource(1))
	for range 5 {
		w.edit(rnd)
	}
	w.turned(2, api.ID{1, 4}, false)
	for _, n := range []int{5, 3, 2} {
		if id, e := w.step(false, true); id != (api.ID{1, n}) || e != api.OK {
			t.Errorf("P7.8: Undo = %v, %d, want number %d", id, e, n)
		}
	}
	holds(t, w.s, ids(1, 1, 4), ids(1, 5, 3, 2), "P7.4: one passed over")
	for _, n := range []int{2, 3, 5} {
		if id, e := w.step(true, true); id != (api.ID{1, n}) || e != api.OK {
			t.Errorf("P7.8: Redo = %v, %d, want number %d", id, e, n)
		}
	}
	holds(t, w.s, ids(1, 1, 4, 2, 3, 5), nil, "P7.8: one passed over")
}
