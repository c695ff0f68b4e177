package world_test

import (
	"math/rand"
	"slices"
	"strings"
	"testing"

	"redraft/api"
	"redraft/desk"
)

// sightOfOps: what commands show, each in the context of all ahead of it.
func sightOfOps(ops []api.Op) *sight {
	var w order
	for k, o := range ops {
		w.put(k, meaning(w.row(k), o))
	}
	return w.see()
}

// sightAt: what a node's commands show.
func (x *pair) sightAt(n int) *sight {
	x.t.Helper()
	ops, e := x.w.Ops(n)
	if e != api.OK {
		x.t.Fatalf("P17.1: Ops(%d): %d", n, int(e))
	}
	return sightOfOps(ops)
}

// P2: the two carets and texts of a quarrel about one place, by hand.
func TestP2OnePlace(t *testing.T) {
	x := pairAt(t, ins(1, 0, "abc"), settle())
	x.all(ins(1, 1, "11"), ins(2, 1, "22"), move(1, 1), tick(1), tick(2))
	x.do(deliver(lastSubmit(x)))
	x.shows(1, "a11bc", 1)
	x.shows(2, "a22bc", 3)
	x.do(settle()) // client 2's Submit came first
	x.shows(1, "a2211bc", 1)
	x.shows(2, "a2211bc", 3)
	x.all(del(1, 0, 7), ins(2, 3, "!"))
	x.shows(1, "", 0)
	x.shows(2, "a22!11bc", 4)
	x.do(settle())
	x.shows(1, "!", 0)
	x.shows(2, "!", 1)
	x.do(undo(1))
	x.shows(1, "a22!11bc", 8)
	x.do(off(2, 1, 1))
	x.shows(2, "!", 0) // a's, b's and c's counters are two now
	x.do(settle())
	x.shows(1, "22!11", 5)
	x.shows(2, "22!11", 0)
}

// P2: what a client shows hangs on its order alone: two rooms in which the same commands have come to it by other ways.
func TestP2SameOrder(t *testing.T) {
	x := pairAt(t, ins(2, 0, "base"), settle(), ins(1, 2, "mine"), ins(2, 2, "theirs"), tick(2))
	y := pairAt(t, ins(2, 0, "base"), settle(), ins(2, 2, "theirs"), tick(2))
	x.do(deliver(lastSubmit(x)))
	y.do(deliver(lastSubmit(y)))
	x.do(settle()) // theirs comes to client 1 while mine is pending
	y.do(settle())
	y.do(move(1, 8)) // behind what was there at its left
	y.all(ins(1, 8, "mine"), settle())
	for n := range 3 {
		if a, b := x.w.Views()[n], y.w.Views()[n]; a.Text != b.Text || a.Known != b.Known {
			t.Fatalf("P2: %+v, %+v", a, b)
		}
	}
	x.shows(1, "batheirsminese", 12)
}

// P4: an undo of any edit that is on gives just that view with the edit off, and the redo behind it the same text again, whatever is under way.
func TestP4Undo(t *testing.T) {
	turned := 0
	for seed := range int64(120) {
		r := rand.New(rand.NewSource(4400 + seed))
		x := randomPair(t, r)
		for range 60 {
			x.try(randomStep(r, x.p, weathers[r.Intn(3)]))
		}
		for c, v := range x.w.Views() {
			if c == 0 || !v.Up {
				continue
			}
			before := x.sightAt(c)
			ops, _ := x.w.Ops(c)
			for _, o := range ops {
				if o.Kind == api.Status || !before.on[o.ID] || x.try(off(c, o.ID[0], o.ID[1])).Code != api.OK {
					continue
				}
				turned++
				holdTurned(t, o, before, x.sightAt(c))
				x.see()
				if x.try(on(c, o.ID[0], o.ID[1])).Code != api.OK {
					break
				}
				if got := x.w.Views()[c].Text; got != v.Text {
					t.Fatalf("P4: %s: %q, was %q", x.script(), got, v.Text)
				}
			}
		}
	}
	if turned < 300 {
		t.Errorf("only %d edits were undone", turned)
	}
}

// holdTurned: the cells are the same, in the same order; the counters of the edit's have changed by one, all others are what they were.
func holdTurned(t *testing.T, o api.Op, before, after *sight) {
	t.Helper()
	if !slices.Equal(before.row, after.row) {
		t.Fatalf("P4: %s: the cells %v have become %v", line(o), before.row, after.row)
	}
	by := 1
	if o.Kind == api.Hide {
		by = -1
	}
	for _, c := range before.row {
		want := before.hid[c]
		if slices.Contains(before.cells[o.ID], c) {
			want += by
		}
		if after.hid[c] != want {
			t.Fatalf("P4: %s: the counter of %v was %d and is %d, want %d", line(o), c, before.hid[c], after.hid[c], want)
		}
	}
}

// P5: as if never: where nothing needs an edit's cells, the view with it off is that of the order without it.
func TestP5AsIfNever(t *testing.T) {
	erased := 0
	for seed := range int64(200) {
		r := rand.New(rand.NewSource(5500 + seed))
		x := randomPair(t, r)
		for range 50 {
			x.try(randomStep(r, x.p, weathers[r.Intn(3)]))
		}
		for c, v := range x.w.Views() {
			if c == 0 || !v.Up {
				continue
			}
			ops, _ := x.w.Ops(c)
			for _, o := range ops {
				if o.Kind == api.Status || x.try(off(c, o.ID[0], o.ID[1])).Code != api.OK {
					continue
				}
				now, _ := x.w.Ops(c)
				view := desk.NewReplica()
				for k, o := range now {
					view.Put(k, o)
				}
				rest, err := view.Erase(o.ID)
				if o.Kind == api.Hide && err != nil {
					t.Fatalf("P5: a delete can't be thought away: %v", err)
				}
				if err == nil {
					erased++
					if got, want := x.w.Views()[c].Text, sightOfOps(rest).text(); got != want {
						t.Fatalf("P5: %s: with %s off %q, without it %q", x.script(), line(o), got, want)
					}
				}
			}
		}
	}
	if erased < 300 {
		t.Errorf("only %d edits were thought away", erased)
	}
}

// letters: runes of which no two are alike.
type letters struct{ next rune }

func (l *letters) take(n int) string {
	var b strings.Builder
	for range n {
		l.next++
		b.WriteRune(0x4e00 + l.next)
	}
	return b.String()
}

// within: is each rune of a part in the whole, in the same order?
func within(part, whole string) bool {
	rest := []rune(whole)
	for _, r := range part {
		i := slices.Index(rest, r)
		if i < 0 {
			return false
		}
		rest = rest[i+1:]
	}
	return true
}

// P6: one text: two nodes that know the same and have none pending show the same; and there is one order of all cells ever made, of which every view ever shown is a part.
func TestP6OneText(t *testing.T) {
	for seed := range int64(120) {
		r := rand.New(rand.NewSource(6600 + seed))
		x := randomPair(t, r)
		l := &letters{}
		var shown []string
		w := weathers[r.Intn(len(weathers))]
		for range 150 {
			s := randomStep(r, x.p, w)
			if s.Kind == api.StepInsert && len(s.Text) > 0 {
				s.Text = l.take(1 + r.Intn(3))
			}
			x.try(s)
			at := map[int]string{}
			for _, v := range x.w.Views() {
				shown = append(shown, v.Text)
				was, known := at[v.Known]
				if known && v.Pending == 0 && was != v.Text && v.Up {
					t.Fatalf("P6: %s: behind %d commands one shows %q, another %q", x.script(), v.Known, was, v.Text)
				}
				if v.Pending == 0 && v.Up {
					at[v.Known] = v.Text
				}
			}
		}
		x.do(settle())
		x.oneText()
		s := x.sightAt(0)
		whole := ""
		for _, c := range s.row {
			whole += string(s.letter[c])
		}
		for _, text := range shown {
			if !within(text, whole) {
				t.Fatalf("P6: %s: %q was shown, which is no part of %q", x.script(), text, whole)
			}
		}
	}
}
