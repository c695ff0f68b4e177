package window_test

import (
	"iter"
	"slices"
	"testing"

	"redraft/api"
	"redraft/window"
)

func TestP13_7Nothing(t *testing.T) {
	for _, held := range [][]int{nil, {1}, {2, 1}} {
		w := filled(t, 0, 3, held...)
		seq := w.Ready()
		if seq == nil {
			t.Fatal("P13.7: the sequence is nil")
		}
		handsOf(t, seq, "nothing is ready")
		slices.Sort(held)
		holds(t, w, "P13.7: nothing is ready", 0, held...)
	}
}

// Ready itself changes nothing, however often it is called.
func TestP13_7ByItself(t *testing.T) {
	w := filled(t, 4, 4, 4, 5, 7)
	for range 5 {
		if w.Ready() == nil {
			t.Fatal("P13.7: the sequence is nil")
		}
		holds(t, w, "P13.7: Ready alone", 4, 4, 5, 7)
		peeks(t, w, "4:", api.OK)
	}
}

// A loop goes up to the first number that is not held.
func TestP13_7ToTheEnd(t *testing.T) {
	w := filled(t, 4, 8, 11, 6, 4, 5, 8, 9)
	turns := 0
	for n, v := range w.Ready() {
		if n != 4+turns || v != told(n, "") || w.Next() != n+1 {
			t.Fatalf("P13.7: turn %d is handed %d %q, Next %d", turns, n, v, w.Next())
		}
		if slices.Contains(w.Held(), n) {
			t.Fatalf("P13.7: %d is held while the loop has it", n)
		}
		turns++
	}
	if turns != 3 {
		t.Fatalf("P13.7: %d turns, want 3", turns)
	}
	holds(t, w, "P13.7: a loop gone to its end", 7, 8, 9, 11)
	hands(t, w, "again")
	holds(t, w, "P13.7: nothing is ready", 7, 8, 9, 11)
}

// leave: a loop that is left at the number last by a return.
func leave(w *window.Window[string], last int) int {
	turns := 0
	for n := range w.Ready() {
		turns++
		if n == last {
			return turns
		}
	}
	return -turns
}

func TestP13_7EndsEarly(t *testing.T) {
	for last := 4; last < 8; last++ {
		w := filled(t, 4, 5, 8, 7, 6, 5, 4)
		if turns := leave(w, last); turns != last-3 {
			t.Fatalf("P13.7: left by return at %d behind %d turns", last, turns)
		}
		rest := []int{5, 6, 7, 8}[last-4:]
		holds(t, w, "P13.7: left by return", last+1, rest...)
		peeks(t, w, told(last+1, ""), api.OK)
		hands(t, w, "the rest", rest...)
	}
	w := filled(t, 4, 5, 8, 7, 6, 5, 4)
outer:
	for range 3 {
		for n := range w.Ready() {
			if n == 6 {
				break outer
			}
			continue outer
		}
	}
	holds(t, w, "P13.7: left by labels", 7, 7, 8)
}

// A loop whose body panics has ended early.
func TestP13_7BodyPanics(t *testing.T) {
	w := filled(t, 4, 5, 4, 5, 6)
	func() {
		defer func() {
			if recover() != "enough" {
				t.Error("P13.7: the body's panic is gone")
			}
		}()
		for n := range w.Ready() {
			if n == 5 {
				panic("enough")
			}
		}
	}()
	holds(t, w, "P13.7: left by a panic", 6, 6)
	hands(t, w, "the rest", 6)
}

// One that has said that it wants no more isn't asked again.
func TestP13_7AsksNoMore(t *testing.T) {
	for most := 1; most <= 4; most++ {
		w := filled(t, 0, 4, 0, 1, 2, 3)
		asked := 0
		w.Ready()(func(n int, v string) bool {
			asked++
			return asked < most
		})
		if asked != most || w.Next() != most {
			t.Fatalf("P13.7: asked %d times, Next %d, want %d", asked, w.Next(), most)
		}
	}
}

// What the body puts and makes ready comes in the same loop; the width is counted from the new Next on.
func TestP13_7BodyPuts(t *testing.T) {
	w := filled(t, 0, 2, 0)
	const last = 5000
	came := 0
	for n, v := range w.Ready() {
		if n != came || v != told(n, "") {
			t.Fatalf("P13.7: turn %d is handed %d %q", came, n, v)
		}
		came++
		puts(t, w, n, "again", api.ErrOld)
		puts(t, w, n+3, "far", api.ErrFar)
		switch {
		case n == last:
		case n%2 == 0:
			puts(t, w, n+2, told(n+2, ""), api.OK)
			puts(t, w, n+1, told(n+1, ""), api.OK)
		default:
			puts(t, w, n+1, "double", api.ErrDouble)
		}
	}
	if came != last+1 {
		t.Fatalf("P13.7: %d turns, want %d", came, last+1)
	}
	holds(t, w, "P13.7: the body puts", last+1)
}

func TestP13_7BodyDrops(t *testing.T) {
	w := filled(t, 0, 5, 0, 1, 2, 3, 4)
	for n := range w.Ready() {
		drops(t, w, n, api.ErrEmpty)
		if n == 1 {
			drops(t, w, 2, api.OK)
		}
	}
	holds(t, w, "P13.7: the body drops what was ready", 2, 3, 4)
	puts(t, w, 2, "2:", api.OK)
	var seen []string
	for n, v := range w.Ready() {
		seen = append(seen, v)
		if n == 2 {
			drops(t, w, 3, api.OK)
			puts(t, w, 3, "anew", api.OK)
			drops(t, w, 4, api.OK)
		}
	}
	if !slices.Equal(seen, []string{"2:", "anew"}) {
		t.Fatalf("P13.7: the body drops and puts anew: %q", seen)
	}
	holds(t, w, "P13.7: the body drops", 4)
}

// What the body passes the loop isn't handed.
func TestP13_7BodyPasses(t *testing.T) {
	w := filled(t, 0, 6, 0, 1, 2, 3, 5)
	var seen []int
	for n := range w.Ready() {
		seen = append(seen, n)
		passes(t, w, api.OK)
		if w.Next() != n+2 {
			t.Fatalf("P13.5: Pass in a loop: Next %d, want %d", w.Next(), n+2)
		}
	}
	if !slices.Equal(seen, []int{0, 2}) {
		t.Fatalf("P13.7: the body passes: %v", seen)
	}
	holds(t, w, "P13.7: the body passes", 4, 5)
}

func TestP13_7BodyPeeks(t *testing.T) {
	w := filled(t, 0, 6, 0, 1, 2, 5)
	turns := 0
	for n := range w.Ready() {
		turns++
		if n < 2 {
			peeks(t, w, told(n+1, ""), api.OK)
			continue
		}
		peeks(t, w, "", api.ErrEmpty)
	}
	if turns != 3 {
		t.Fatalf("P13.7: the body peeks: %d turns, want 3", turns)
	}
	holds(t, w, "P13.7: the body peeks", 3, 5)
}

// A loop inside a loop: both take out of one window.
func TestP13_7Nested(t *testing.T) {
	w := filled(t, 0, 8, 0, 1, 2, 3, 4, 5, 7)
	var outer, inner []int
	for n := range w.Ready() {
		outer = append(outer, n)
		for m := range w.Ready() {
			inner = append(inner, m)
			if m == 1 || m == 4 {
				break
			}
		}
	}
	if !slices.Equal(outer, []int{0, 2, 5}) || !slices.Equal(inner, []int{1, 3, 4}) {
		t.Fatalf("P13.7: outer %v, inner %v", outer, inner)
	}
	holds(t, w, "P13.7: a loop inside a loop", 6, 7)
}

// The same sequence inside itself.
func TestP13_7InsideItself(t *testing.T) {
	w := filled(t, 0, 8, 0, 1, 2, 3)
	seq := w.Ready()
	var seen []int
	for n := range seq {
		seen = append(seen, n)
		for m := range seq {
			seen = append(seen, m)
		}
	}
	if !slices.Equal(seen, []int{0, 1, 2, 3}) {
		t.Fatalf("P13.7: %v", seen)
	}
	holds(t, w, "P13.7: a sequence inside itself", 4)
}

// A sequence may be gone through again, also behind a loop that was left, and begins with what is ready then.
func TestP13_7Again(t *testing.T) {
	w := filled(t, 0, 3)
	seq := w.Ready()
	handsOf(t, seq, "nothing was put yet")
	puts(t, w, 1, "1:", api.OK)
	handsOf(t, seq, "nothing is ready yet")
	puts(t, w, 0, "0:", api.OK)
	puts(t, w, 2, "2:", api.OK)
	for range seq {
		break
	}
	holds(t, w, "P13.7: left early", 1, 1, 2)
	handsOf(t, seq, "the rest", 1, 2)
	handsOf(t, seq, "all has come")
	puts(t, w, 3, "3:", api.OK)
	passes(t, w, api.OK)
	puts(t, w, 4, "4:", api.OK)
	handsOf(t, seq, "what another took isn't handed out", 4)
	holds(t, w, "P13.7: again", 5)
}

// Two sequences of one window in turns.
func TestP13_7InTurns(t *testing.T) {
	w := filled(t, 0, 9, 0, 1, 2, 3, 4)
	nextA, stopA := iter.Pull2(w.Ready())
	nextB, stopB := iter.Pull2(w.Ready())
	defer stopA()
	defer stopB()
	for want := range 5 {
		next := nextA
		if want%2 == 1 {
			next = nextB
		}
		if n, v, ok := next(); n != want || v != told(want, "") || !ok || w.Next() != want+1 {
			t.Fatalf("P13.7: %d %q %v, want %d", n, v, ok, want)
		}
	}
	if n, v, ok := nextB(); n != 0 || v != "" || ok {
		t.Fatalf("P13.7: %d %q, where nothing is ready", n, v)
	}
	puts(t, w, 5, "5:", api.OK)
	if n, _, ok := nextB(); n != 0 || ok {
		t.Fatalf("P13.7: a loop that has ended goes on with %d", n)
	}
	if n, _, ok := nextA(); n != 5 || !ok {
		t.Fatalf("P13.7: %d %v, want 5", n, ok)
	}
}
