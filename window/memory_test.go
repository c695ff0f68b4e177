package window_test

import (
	"math/rand"
	"runtime"
	"slices"
	"testing"
	"weak"

	"redraft/api"
	"redraft/window"
)

// scribble: all of a list is written over, spare room too.
func scribble(list []int) {
	all := list[:cap(list)]
	for i := range all {
		all[i] = -77
	}
}

func TestP13_1HeldIsNew(t *testing.T) {
	for many := range 40 {
		want := upTo(6, 6+many)
		w := filled(t, 5, 50, want...)
		a, b := w.Held(), w.Held()
		scribble(a)
		if !slices.Equal(b, want) {
			t.Fatalf("P13.1: two lists of Held share memory: %v", b)
		}
		holds(t, w, "P13.1: Held's list written over", 5, want...)
		_ = append(b, -78)
		holds(t, w, "P13.1: Held's list appended to", 5, want...)
		puts(t, w, 5, "5:", api.OK)
		hands(t, w, "Held's list written over", upTo(5, 6+many)...)
	}
}

// What a caller has in hand stays as it was, whatever the window goes through.
func TestP13_1HeldStays(t *testing.T) {
	w := filled(t, 5, 9, 9, 6, 5)
	list := w.Held()
	hands(t, w, "two", 5, 6)
	puts(t, w, 8, "8:", api.OK)
	drops(t, w, 9, api.OK)
	holds(t, w, "P13.8: Held", 7, 8)
	if !slices.Equal(list, []int{5, 6, 9}) {
		t.Fatalf("P13.1: what Held handed out has become %v", list)
	}
}

// great: a thing that the heap holds by itself.
type great struct {
	words [64]int
}

// track: a thing goes into the window; what is answered tells whether anybody still holds it.
func track(w *window.Window[*great], n int) weak.Pointer[great] {
	v := &great{}
	v.words[0] = n
	w.Put(n, v)
	return weak.Make(v)
}

// No more is kept than is held: what was passed, dropped or refused is let go.
func TestLetsGo(t *testing.T) {
	w := made[*great](t, 0, 9)
	var kept []weak.Pointer[great]
	for n := range 6 {
		kept = append(kept, track(w, n))
	}
	refused := track(w, 5)
	passes(t, w, api.OK)
	drops(t, w, 4, api.OK)
	for n := range w.Ready() {
		if n == 2 {
			break
		}
	}
	runtime.GC()
	for n, p := range kept {
		v, held := p.Value(), n == 3 || n == 5
		if (v != nil) != held || held && v.words[0] != n {
			t.Errorf("number %d: still there: %v, want %v", n, v != nil, held)
		}
	}
	if refused.Value() != nil {
		t.Error("a thing that was refused is still there")
	}
	holds(t, w, "two are held", 3, 3, 5)
	runtime.KeepAlive(w)
}

// Windows in turns, with the same numbers, have nothing to do with one another; nor have windows of other kinds.
func TestP13_1Apart(t *testing.T) {
	r := rand.New(rand.NewSource(134))
	for range 300 {
		next, size := r.Intn(4), 1+r.Intn(5)
		x, y := newPair(t, next, size), newPair(t, next, 1+r.Intn(5))
		other := made[int](t, next, size)
		puts(t, other, next, 7, api.OK)
		for range 30 {
			x.do(randomCall(r, size, 2))
			y.see()
			y.do(randomCall(r, size, 2))
			x.see()
			holds(t, other, "P13.1: other windows were called", next, next)
			peeks(t, other, 7, api.OK)
		}
	}
}

// A loop over one window that puts into another, which is looped over too.
func TestP13_1HandsOn(t *testing.T) {
	a, b := filled(t, 0, 5, 0, 1, 2, 4), made[string](t, 1, 2)
	var seen []int
	for n, v := range a.Ready() {
		b.Put(n, v)
		for m, v := range b.Ready() {
			if v != told(m, "") {
				t.Fatalf("P13.9: %d comes with %q", m, v)
			}
			seen = append(seen, m)
		}
	}
	if !slices.Equal(seen, []int{1, 2}) {
		t.Fatalf("P13.7: %v was handed on, want 1, 2", seen)
	}
	holds(t, a, "P13.1: the first", 3, 4)
	holds(t, b, "P13.1: the second", 3)
}
