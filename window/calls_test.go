package window_test

import (
	"math"
	"testing"

	"redraft/api"
)

// Numbers on both sides of each bound of windows that stand at their own bounds. The bounds are small: their sum can't wrap, whatever the number is.
func TestP13_3Bounds(t *testing.T) {
	for _, next := range []int{0, 1, 5, api.MaxPlace - 1, api.MaxPlace} {
		for _, size := range []int{1, 2, 3, api.Width, api.MaxPlace - 1, api.MaxPlace} {
			numbers := []int{-1, 0, 1, next - 2, next - 1, next, next + 1, next + size - 2, next + size - 1, next + size, next + size + 1, 2*api.MaxPlace - 1, 2 * api.MaxPlace}
			for _, high := range []int{math.MaxInt - next - size, math.MaxInt - size, math.MaxInt - next} {
				numbers = append(numbers, high-1, high, high+1)
			}
			numbers = append(numbers, math.MinInt+next, math.MinInt+size, math.MinInt+next+size)
			for _, n := range append(numbers, far...) {
				w := made[string](t, next, size)
				switch {
				case n < next:
					puts(t, w, n, "x", api.ErrOld)
				case n >= next+size:
					puts(t, w, n, "x", api.ErrFar)
				default:
					puts(t, w, n, "x", api.OK)
					holds(t, w, "P13.3: Put", next, n)
					continue
				}
				holds(t, w, "P13.1: Put refused", next)
			}
		}
	}
}

// The bounds go along with Next, beyond MaxPlace too.
func TestP13_3BoundsMove(t *testing.T) {
	for _, next := range []int{0, api.MaxPlace - 2, api.MaxPlace} {
		w := made[int](t, next, 3)
		for i := range 10 {
			now := next + i
			puts(t, w, now-1, 0, api.ErrOld)
			puts(t, w, now+3, 0, api.ErrFar)
			for _, n := range far {
				if n < 0 {
					puts(t, w, n, 0, api.ErrOld)
				} else {
					puts(t, w, n, 0, api.ErrFar)
				}
			}
			if i == 0 {
				puts(t, w, now, now, api.OK)
				puts(t, w, now+1, now+1, api.OK)
			}
			puts(t, w, now+2, now+2, api.OK)
			holds(t, w, "P13.3: Put", now, now, now+1, now+2)
			peeks(t, w, now, api.OK)
			passes(t, w, api.OK)
		}
	}
}

func TestP13_3Double(t *testing.T) {
	for _, n := range []int{7, 8, 10, 11} {
		w := filled(t, 7, 5, 11, 7, 10, 8)
		puts(t, w, n, "other", api.ErrDouble)
		puts(t, w, n, told(n, ""), api.ErrDouble)
		holds(t, w, "P13.1: Put refused", 7, 7, 8, 10, 11)
		puts(t, w, 9, told(9, ""), api.OK)
		puts(t, w, n, "other", api.ErrDouble)
		hands(t, w, "ErrDouble: the thing that is held stays", 7, 8, 9, 10, 11)
		puts(t, w, n, "other", api.ErrOld)
		holds(t, w, "P13.1: Put refused", 12)
	}
}

// A zero value is a thing like others: it is held.
func TestP13_3ZeroValue(t *testing.T) {
	w := made[string](t, 0, 2)
	puts(t, w, 0, "", api.OK)
	puts(t, w, 0, "x", api.ErrDouble)
	puts(t, w, 1, "", api.OK)
	holds(t, w, "P13.3: Put", 0, 0, 1)
	peeks(t, w, "", api.OK)
	drops(t, w, 1, api.OK)
	passes(t, w, api.OK)
	peeks(t, w, "", api.ErrEmpty)
	puts(t, w, 1, "", api.OK)
	if numbers, things := through(w.Ready()); len(numbers) != 1 || numbers[0] != 1 || things[0] != "" {
		t.Fatalf("P13.7: a zero value: %v, %q", numbers, things)
	}
}

// Nothing is ready: of a new window, behind all that was passed or dropped, and while only later numbers are held.
func TestP13_4And5Empty(t *testing.T) {
	w := made[string](t, 2, 4)
	none := func(next int, held ...int) {
		t.Helper()
		for range 2 {
			peeks(t, w, "", api.ErrEmpty)
			passes(t, w, api.ErrEmpty)
			holds(t, w, "P13.1: Peek and Pass refused", next, held...)
		}
	}
	none(2)
	puts(t, w, 3, "d", api.OK)
	none(2, 3)
	puts(t, w, 5, "f", api.OK)
	none(2, 3, 5)
	puts(t, w, 2, "c", api.OK)
	passes(t, w, api.OK)
	passes(t, w, api.OK)
	none(4, 5)
	puts(t, w, 4, "e", api.OK)
	drops(t, w, 4, api.OK)
	none(4, 5)
	drops(t, w, 5, api.OK)
	none(4)
}

// Peek leaves all as it is; Pass takes just one.
func TestP13_4And5(t *testing.T) {
	w := filled(t, 9, 3, 10, 9, 11)
	for n := 9; n < 12; n++ {
		for range 3 {
			peeks(t, w, told(n, ""), api.OK)
		}
		if got := w.Held(); w.Next() != n || len(got) != 12-n || got[0] != n {
			t.Fatalf("P13.4: behind Peek: Next %d, Held %v, want %d", w.Next(), got, n)
		}
		passes(t, w, api.OK)
	}
	holds(t, w, "P13.5: Pass", 12)
	passes(t, w, api.ErrEmpty)
}

func TestP13_6Drop(t *testing.T) {
	w := filled(t, 5, 4, 5, 8, 6)
	for _, n := range append([]int{-1, 0, 4, 7, 9, 10}, far...) {
		drops(t, w, n, api.ErrEmpty)
	}
	holds(t, w, "P13.1: Drop refused", 5, 5, 6, 8)
	drops(t, w, 8, api.OK)
	holds(t, w, "P13.6: Drop", 5, 5, 6)
	drops(t, w, 8, api.ErrEmpty)
	passes(t, w, api.OK)
	drops(t, w, 5, api.ErrEmpty)
	drops(t, w, 6, api.OK)
	holds(t, w, "P13.6: Drop of what is ready", 6)
	peeks(t, w, "", api.ErrEmpty)
	passes(t, w, api.ErrEmpty)
	drops(t, w, 6, api.ErrEmpty)
	holds(t, w, "P13.1: Drop refused", 6)
}

// What was dropped may come anew, and then comes out as it came last.
func TestP13_6Anew(t *testing.T) {
	w := filled(t, 5, 4, 5, 6, 7)
	for _, n := range []int{5, 6, 7} {
		for _, v := range []string{"second", "third"} {
			drops(t, w, n, api.OK)
			puts(t, w, n, v, api.OK)
			puts(t, w, n, "fourth", api.ErrDouble)
			holds(t, w, "P13.6: dropped and put anew", 5, 5, 6, 7)
		}
	}
	drops(t, w, 6, api.OK)
	if numbers, things := through(w.Ready()); len(numbers) != 1 || things[0] != "third" {
		t.Fatalf("P13.9: %v, %q, want the third 5", numbers, things)
	}
	puts(t, w, 6, "last", api.OK)
	peeks(t, w, "last", api.OK)
	passes(t, w, api.OK)
	peeks(t, w, "third", api.OK)
	puts(t, w, 6, "x", api.ErrOld)
}

// Held tells the numbers rising, in whatever order they came.
func TestP13_8Held(t *testing.T) {
	w := filled(t, 100, 300, 399, 100, 250, 128, 101, 398, 127, 256, 255, 300, 110, 109)
	holds(t, w, "P13.8: Held", 100, 100, 101, 109, 110, 127, 128, 250, 255, 256, 300, 398, 399)
	hands(t, w, "two are ready", 100, 101)
	holds(t, w, "P13.8: Held", 102, 109, 110, 127, 128, 250, 255, 256, 300, 398, 399)
	drops(t, w, 250, api.OK)
	puts(t, w, 400, "400", api.OK)
	puts(t, w, 401, "401", api.OK)
	puts(t, w, 402, "402", api.ErrFar)
	holds(t, w, "P13.8: Held", 102, 109, 110, 127, 128, 255, 256, 300, 398, 399, 400, 401)
}
