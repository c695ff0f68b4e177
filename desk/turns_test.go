package desk_test

import (
	"fmt"
	"math/rand"
	"slices"
	"testing"

	"redraft/api"
	"redraft/desk"
	"redraft/history"
	"redraft/op"
)

// some: an operation of this id that most times may stand behind the first i commands of the order.
func some(rnd *rand.Rand, w order, i int, id api.ID) api.Op {
	row := w.row(i)
	head := api.Head{ID: id}
	switch k := rnd.Intn(6); {
	case k < 3 || len(row) == 0:
		head.Kind = api.Ins
		return api.Op{Head: head, At: rnd.Intn(len(row) + 1), Text: []string{"x", "yz", "é", "a\nb"}[rnd.Intn(4)]}
	case k < 5:
		head.Kind = api.Hide
		var cells []cell
		for _, c := range row {
			if rnd.Intn(3) == 0 {
				cells = append(cells, c)
			}
		}
		return api.Op{Head: head, Ranges: rangesOf(row, cells)}
	}
	head.Kind = api.Status
	return api.Op{Head: head, Target: w[rnd.Intn(i)].ID, On: rnd.Intn(2) == 0}
}

func (w order) last(client int) int {
	n := 0
	for _, m := range w {
		if m.ID[0] == client {
			n = max(n, m.ID[1])
		}
	}
	return n
}

// grow: one more command into the view, anywhere; it may be refused.
func (v *view) grow(rnd *rand.Rand) {
	v.t.Helper()
	client := 1 + rnd.Intn(3)
	i := len(v.w)
	if rnd.Intn(2) == 0 {
		i = rnd.Intn(len(v.w) + 1)
	}
	v.put(i, some(rnd, v.w, i, api.ID{client, v.w.last(client) + 1}))
}

func TestViewScripts(t *testing.T) {
	rnd := rand.New(rand.NewSource(801))
	for range 250 {
		v := newView(t)
		for range 14 {
			v.grow(rnd)
			agree(t, v.r, v.w, "a script of Puts")
		}
		if t.Failed() {
			return
		}
	}
}

// P8.3: Entry, Find, Ops and Erase tell what a history tells that has been through the same, and Put's effect is the history's.
func TestP8_3AsHistory(t *testing.T) {
	rnd := rand.New(rand.NewSource(802))
	for range 60 {
		r, h := desk.NewReplica(), history.New()
		v := newView(t)
		for range 12 {
			client := 1 + rnd.Intn(3)
			i := rnd.Intn(len(v.w) + 1)
			o := some(rnd, v.w, i, api.ID{client, v.w.last(client) + 1})
			v.put(i, o)
			want, e := h.Put(i, o)
			got, err := r.Put(i, o)
			answers(t, err, "Put", i, e)
			made(t, "P8.2: Put", got, want)
		}
		asHistory(t, r, h)
	}
}

func asHistory(t *testing.T, r *desk.Replica, h *history.History) {
	t.Helper()
	for i := -1; i <= h.Len()+1; i++ {
		want, e := h.Entry(i)
		got, err := r.Entry(i)
		answers(t, err, "Entry", i, e)
		if !sameEntry(got, want) {
			t.Errorf("P8.3: Entry(%d) = %v, want %v", i, got, want)
		}
		for j := -1; j <= h.Len()+1; j++ {
			want, e := h.Ops(i, j)
			got, err := r.Ops(i, j)
			answers(t, err, "Ops", i, e)
			if !slices.EqualFunc(got, want, op.Equal) {
				t.Errorf("P8.3: Ops(%d, %d) = %v, want %v", i, j, got, want)
			}
		}
	}
	for client := range 5 {
		for n := range 10 {
			id := api.ID{client, n}
			k, e := h.Find(id)
			got, err := r.Find(id)
			answers(t, err, "Find", 0, e)
			want, e := h.Erase(id)
			left, err := r.Erase(id)
			answers(t, err, "Erase", 0, e)
			if got != k || !slices.EqualFunc(left, want, op.Equal) {
				t.Errorf("P8.3: Find(%v) = %d, want %d; Erase = %v, want %v", id, got, k, left, want)
			}
		}
	}
}

// needs: the ids without which the command has no meaning.
func (m meant) needs() []api.ID {
	var out []api.ID
	for _, c := range append(slices.Clone(m.cover), m.ahead) {
		out = append(out, c.id)
	}
	return append(out, m.Target)
}

// inTurns: the order's commands put into a new Replica one by one, each at its place among those that are there, in the given turns; false, if one comes ahead of what it needs.
func inTurns(t *testing.T, w order, turns []int) (*desk.Replica, bool) {
	t.Helper()
	r := desk.NewReplica()
	var there order
	var at []int // the numbers, in w, of what is there
	for _, k := range turns {
		for _, id := range w[k].needs() {
			if id != (api.ID{}) && there.find(id) < 0 {
				return nil, false
			}
		}
		i, _ := slices.BinarySearch(at, k)
		if _, err := r.Put(i, w[k].form(there.row(i))); err != nil {
			t.Fatalf("P8.4: %v as number %d: %v", w[k].Op, i, err)
		}
		at = slices.Insert(at, i, k)
		there = there.with(i, w[k])
	}
	return r, true
}

// permutations: calls f with each order of the numbers below n.
func permutations(n int, f func([]int)) {
	var longer func(done []int)
	longer = func(done []int) {
		if len(done) == n {
			f(done)
		}
		for k := range n {
			if !slices.Contains(done, k) {
				longer(append(slices.Clone(done), k))
			}
		}
	}
	longer(nil)
}

// P8.4: small orders, put in in every order that there is.
func TestP8_4EveryTurn(t *testing.T) {
	rnd := rand.New(rand.NewSource(804))
	ways := 0
	for range 40 {
		v := newView(t)
		for len(v.w) < 5 {
			v.grow(rnd)
		}
		want := fmt.Sprint(v.r.Runs(), v.r.Text())
		permutations(5, func(turns []int) {
			r, ok := inTurns(t, v.w, turns)
			if !ok {
				return
			}
			ways++
			if got := fmt.Sprint(r.Runs(), r.Text()); got != want {
				t.Fatalf("P8.4: %v in the turns %v: %s, want %s", v.w.ops(), turns, got, want)
			}
			agree(t, r, v.w, "P8.4")
		})
	}
	if ways < 400 {
		t.Errorf("only %d ways were gone", ways)
	}
}

// P8.4: longer orders, in some of their turns. Two Replicas with equal Ops have equal cells.
func TestP8_4SomeTurns(t *testing.T) {
	rnd := rand.New(rand.NewSource(805))
	for range 60 {
		v := newView(t)
		for range 20 {
			v.grow(rnd)
		}
		for range 10 {
			r, ok := inTurns(t, v.w, likelyTurns(rnd, v.w))
			if !ok {
				t.Fatal("the turns don't fit")
			}
			agree(t, r, v.w, "P8.4: longer orders")
		}
		whole, _ := v.r.Ops(0, v.r.Len())
		again := replayed(t, whole)
		if !slices.Equal(again.Runs(), v.r.Runs()) || again.Text() != v.r.Text() {
			t.Errorf("P8.4: %v, one behind the other: %v, want %v", whole, again.Runs(), v.r.Runs())
		}
	}
}

// likelyTurns: random turns in which nothing comes ahead of what it needs.
func likelyTurns(rnd *rand.Rand, w order) []int {
	var out []int
	for len(out) < len(w) {
		k := rnd.Intn(len(w))
		ready := !slices.Contains(out, k)
		for _, id := range w[k].needs() {
			ready = ready && (id == api.ID{} || slices.Contains(out, w.find(id)))
		}
		if ready {
			out = append(out, k)
		}
	}
	return out
}

// replayed: the commands, each behind all others, in a new Replica.
func replayed(t *testing.T, run []api.Op) *desk.Replica {
	t.Helper()
	r := desk.NewReplica()
	for i, o := range run {
		if _, err := r.Put(i, o); err != nil {
			t.Fatalf("Put(%d, %v): %v", i, o, err)
		}
	}
	return r
}
