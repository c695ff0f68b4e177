package window_test

import (
	"math"
	"testing"

	"redraft/api"
	"redraft/window"
)

func TestP13_2Bounds(t *testing.T) {
	numbers := []int{math.MinInt, math.MinInt + 1, -api.MaxPlace - 1, -api.MaxPlace, -1, 0, 1, 2, 3, api.MaxPlace - 1, api.MaxPlace, api.MaxPlace + 1, 2 * api.MaxPlace, math.MaxInt - api.MaxPlace, math.MaxInt - 1, math.MaxInt}
	for _, next := range numbers {
		for _, size := range numbers {
			w, e := window.New[string](next, size)
			if next < 0 || next > 1048576 || size < 1 || size > 1048576 {
				if w != nil || e != api.ErrLimits {
					t.Errorf("P13.2: New(%d, %d) = %v, %d, want nil, ErrLimits", next, size, w, e)
				}
				continue
			}
			if w == nil || e != api.OK {
				t.Fatalf("P13.2: New(%d, %d) = %v, %d", next, size, w, e)
			}
			holdNew(t, w, next, size)
		}
	}
}

// holdNew: the window holds nothing, and takes just the numbers of its width.
func holdNew(t *testing.T, w *window.Window[string], next, size int) {
	t.Helper()
	holds(t, w, "P13.2: New", next)
	peeks(t, w, "", api.ErrEmpty)
	passes(t, w, api.ErrEmpty)
	drops(t, w, next, api.ErrEmpty)
	hands(t, w, "New")
	puts(t, w, next-1, "x", api.ErrOld)
	puts(t, w, next+size, "x", api.ErrFar)
	holds(t, w, "P13.1: Put refused", next)
	puts(t, w, next+size-1, "last", api.OK)
	holds(t, w, "P13.3: Put", next, next+size-1)
}

// What New made is each time another window.
func TestP13_2Apart(t *testing.T) {
	a, b := made[string](t, 3, 4), made[string](t, 3, 4)
	if a == b {
		t.Fatal("P13.2: New answers one window twice")
	}
	puts(t, a, 3, "a", api.OK)
	holds(t, b, "P13.1: another window was put into", 3)
	puts(t, b, 3, "b", api.OK)
	peeks(t, a, "a", api.OK)
	passes(t, b, api.OK)
	holds(t, a, "P13.1: another window was passed", 3, 3)
	holds(t, made[string](t, 3, 4), "P13.2: a later New", 3)
}
