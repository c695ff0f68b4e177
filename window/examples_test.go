package window_test

import (
	"testing"

	"redraft/api"
	"redraft/window"
)

// The chapter's table; each row goes on from the one above it.
func TestExamples(t *testing.T) {
	for _, c := range [][2]int{{-1, 3}, {5, 0}, {1048577, 1}} {
		if w, e := window.New[string](c[0], c[1]); w != nil || e != api.ErrLimits {
			t.Fatalf("P13.2: New(%d, %d) = %v, %d", c[0], c[1], w, e)
		}
	}
	w := made[string](t, 5, 3)
	puts(t, w, 4, "x", api.ErrOld)
	puts(t, w, 8, "x", api.ErrFar)
	puts(t, w, 7, "g", api.OK)
	puts(t, w, 7, "h", api.ErrDouble)
	peeks(t, w, "", api.ErrEmpty)
	passes(t, w, api.ErrEmpty)
	puts(t, w, 5, "e", api.OK)
	peeks(t, w, "e", api.OK)
	holds(t, w, "P13.8", 5, 5, 7)
	puts(t, w, 9, "x", api.ErrFar)
	exampleLoop(t, w, 5, "e", false)
	holds(t, w, "P13.7", 6, 7)
	puts(t, w, 8, "i", api.OK)
	drops(t, w, 6, api.ErrEmpty)
	drops(t, w, 7, api.OK)
	puts(t, w, 7, "G", api.OK)
	puts(t, w, 6, "f", api.OK)
	exampleLoop(t, w, 6, "f", true)
	holds(t, w, "P13.7: a loop left early", 7, 7, 8)
	peeks(t, w, "G", api.OK)
	passes(t, w, api.OK)
	exampleLoop(t, w, 8, "i", false)
	holds(t, w, "P13.7", 9)
}

// exampleLoop: a loop that is handed one thing, this one; left behind it, or gone to its end.
func exampleLoop(t *testing.T, w *window.Window[string], wantN int, wantV string, leave bool) {
	t.Helper()
	turns := 0
	for n, v := range w.Ready() {
		turns++
		if n != wantN || v != wantV {
			t.Fatalf("P13.7: the loop is handed %d %q, want %d %q", n, v, wantN, wantV)
		}
		if leave {
			break
		}
	}
	if turns != 1 {
		t.Fatalf("P13.7: %d turns, want 1", turns)
	}
}
