package window_test

import (
	"math/rand"
	"slices"
	"testing"

	"redraft/api"
	"redraft/window"
)

// orders: every order of a list, equal elements counted once.
func orders(list []int, do func([]int)) {
	list = slices.Sorted(slices.Values(list))
	var rest func(done, left []int)
	rest = func(done, left []int) {
		if len(left) == 0 {
			do(done)
			return
		}
		for i, n := range left {
			if i > 0 && left[i-1] == n {
				continue
			}
			rest(append(slices.Clone(done), n), slices.Delete(slices.Clone(left), i, i+1))
		}
	}
	rest(nil, list)
}

// putAll: the things come in this order; what comes twice is refused the second time.
func putAll(t *testing.T, w *window.Window[string], order []int) {
	t.Helper()
	seen := map[int]bool{}
	for _, n := range order {
		if seen[n] {
			puts(t, w, n, "double", api.ErrDouble)
			continue
		}
		seen[n] = true
		puts(t, w, n, told(n, ""), api.OK)
	}
}

// upTo: lo, lo+1, .., hi-1.
func upTo(lo, hi int) []int {
	var out []int
	for n := lo; n < hi; n++ {
		out = append(out, n)
	}
	return out
}

// holdOrder: things put in this order come out in the order of their numbers: by a loop, by Peek and Pass, and by loops that are left behind each.
func holdOrder(t *testing.T, next, size, m int, order []int) {
	t.Helper()
	want := upTo(next, next+m)
	a, b, c := made[string](t, next, size), made[string](t, next, size), made[string](t, next, size)
	for _, w := range []*window.Window[string]{a, b, c} {
		putAll(t, w, order)
		holds(t, w, "P13.10: all are held", next, want...)
	}
	hands(t, a, "P13.10", want...)
	for _, n := range want {
		peeks(t, b, told(n, ""), api.OK)
		passes(t, b, api.OK)
		for k, v := range c.Ready() {
			if k != n || v != told(n, "") {
				t.Fatalf("P13.10: %v: %d %q, want %d", order, k, v, n)
			}
			break
		}
	}
	for _, w := range []*window.Window[string]{a, b, c} {
		holds(t, w, "P13.10: all have come", next+m)
		passes(t, w, api.ErrEmpty)
		hands(t, w, "P13.10: no more")
	}
}

// Every order of up to six numbers; of fewer also every order in which some come twice.
func TestP13_10AllOrders(t *testing.T) {
	for m := 0; m <= 6; m++ {
		for _, next := range []int{0, 7, api.MaxPlace} {
			for _, size := range []int{max(m, 1), m + 1, m + 9} {
				orders(upTo(next, next+m), func(order []int) { holdOrder(t, next, size, m, order) })
			}
		}
	}
	for m := 1; m <= 4; m++ {
		for twice := range 1 << m {
			list := upTo(3, 3+m)
			for i := range m {
				if twice>>i&1 == 1 {
					list = append(list, 3+i)
				}
			}
			orders(list, func(order []int) { holdOrder(t, 3, m, m, order) })
		}
	}
}

// Many numbers, some of them twice, in a chance order.
func TestP13_10Shuffled(t *testing.T) {
	r := rand.New(rand.NewSource(131))
	for range 300 {
		m := r.Intn(200)
		next, size := r.Intn(api.MaxPlace+1), max(m, 1)+r.Intn(3)
		order := upTo(next, next+m)
		for range r.Intn(m + 1) {
			order = append(order, next+r.Intn(m))
		}
		r.Shuffle(len(order), func(i, j int) { order[i], order[j] = order[j], order[i] })
		holdOrder(t, next, size, m, order)
	}
}

// A stream of things that come out of order, are lost and sent again, dropped and sent anew, taken out whenever something is ready: each comes out once, in order, as it was put last.
func TestP13_9Stream(t *testing.T) {
	r := rand.New(rand.NewSource(132))
	for range 200 {
		first, size := r.Intn(100), 1+r.Intn(12)
		w := made[string](t, first, size)
		latest := map[int]string{}
		out := first
		take := func(n int, v string) {
			t.Helper()
			if n != out || v != latest[n] {
				t.Fatalf("P13.9: %d %q comes, want %d %q", n, v, out, latest[out])
			}
			out++
		}
		for step := range 300 {
			n := out - 3 + r.Intn(size+6)
			v := told(n, string(rune('a'+step%26)))
			switch r.Intn(8) {
			case 0:
				if v, e := w.Peek(); e == api.OK {
					n := w.Next()
					passes(t, w, api.OK)
					take(n, v)
				}
			case 1:
				w.Drop(n)
			case 2:
				for n, v := range w.Ready() {
					take(n, v)
					if r.Intn(2) == 0 {
						break
					}
				}
			default:
				if w.Put(n, v) == api.OK {
					latest[n] = v
				}
			}
			holdInside(t, w, out, size)
		}
	}
}

// holdInside: everything that is held has a number from Next to Next + size - 1.
func holdInside(t *testing.T, w *window.Window[string], next, size int) {
	t.Helper()
	list := w.Held()
	if w.Next() != next {
		t.Fatalf("P13.9: Next %d, want %d", w.Next(), next)
	}
	for i, n := range list {
		if n < next || n > next+size-1 || i > 0 && list[i-1] >= n {
			t.Fatalf("P13.9: Next %d, width %d: held %v", next, size, list)
		}
	}
}

// The widest window there is, full, at the greatest next.
func TestWidest(t *testing.T) {
	const size = api.MaxPlace
	w := made[int](t, api.MaxPlace, size)
	order := rand.New(rand.NewSource(133)).Perm(size)
	for _, k := range order {
		puts(t, w, api.MaxPlace+k, k, api.OK)
	}
	for _, k := range order[:1000] {
		puts(t, w, api.MaxPlace+k, -1, api.ErrDouble)
	}
	puts(t, w, 2*api.MaxPlace, -1, api.ErrFar)
	if !slices.Equal(w.Held(), upTo(api.MaxPlace, 2*api.MaxPlace)) {
		t.Fatal("P13.8: a full window: Held")
	}
	out := 0
	for n, k := range w.Ready() {
		if n != api.MaxPlace+out || k != out {
			t.Fatalf("P13.10: %d %d comes, want %d", n, k, api.MaxPlace+out)
		}
		out++
	}
	if out != size {
		t.Fatalf("P13.10: %d came, want %d", out, size)
	}
	holds(t, w, "P13.10: all have come", 2*api.MaxPlace)
	puts(t, w, 3*api.MaxPlace, -1, api.ErrFar)
	puts(t, w, 3*api.MaxPlace-1, -1, api.OK)
	puts(t, w, 2*api.MaxPlace-1, -1, api.ErrOld)
	holds(t, w, "P13.3: the width goes along", 2*api.MaxPlace, 3*api.MaxPlace-1)
}

// The narrowest window takes just what is ready at once.
func TestNarrowest(t *testing.T) {
	w := made[int](t, 0, 1)
	for n := range 100 {
		puts(t, w, n-1, 0, api.ErrOld)
		puts(t, w, n+1, 0, api.ErrFar)
		puts(t, w, n, n, api.OK)
		puts(t, w, n, 0, api.ErrDouble)
		puts(t, w, n+1, 0, api.ErrFar)
		peeks(t, w, n, api.OK)
		passes(t, w, api.OK)
	}
	holds(t, w, "P13.9", 100)
}
