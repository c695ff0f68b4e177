package window_test

import (
	"errors"
	"math"
	"testing"

	"redraft/api"
	"redraft/window"
)

// same: whether two things of a kind are one and the same, as far as the kind's values let it be seen.
type same[T any] func(a, b T) bool

func equal[T comparable](a, b T) bool { return a == b }

// kind: two things of a kind go in and come out by every way; beside an error stands the kind's zero value.
func kind[T any](t *testing.T, name string, is same[T], a, b T) {
	t.Helper()
	w := made[T](t, 3, 3)
	var zero T
	if v, e := w.Peek(); !is(v, zero) || e != api.ErrEmpty {
		t.Fatalf("P13.4: %s: Peek of nothing = %v, %d", name, v, e)
	}
	for n, v := range w.Ready() {
		t.Fatalf("P13.7: %s: %d %v comes of nothing", name, n, v)
	}
	puts(t, w, 4, b, api.OK)
	puts(t, w, 4, a, api.ErrDouble)
	if v, e := w.Peek(); !is(v, zero) || e != api.ErrEmpty {
		t.Fatalf("P13.4: %s: Peek, nothing ready = %v, %d", name, v, e)
	}
	puts(t, w, 3, a, api.OK)
	if v, e := w.Peek(); !is(v, a) || e != api.OK {
		t.Fatalf("P13.4: %s: Peek = %v, %d, want %v", name, v, e, a)
	}
	puts(t, w, 5, zero, api.OK)
	holds(t, w, name, 3, 3, 4, 5)
	numbers, things := through(w.Ready())
	if len(numbers) != 3 || !is(things[0], a) || !is(things[1], b) || !is(things[2], zero) {
		t.Fatalf("P13.1: %s: %v comes out, was %v, %v, %v", name, things, a, b, zero)
	}
	holds(t, w, name, 6)
	if v, e := w.Peek(); !is(v, zero) || e != api.ErrEmpty {
		t.Fatalf("P13.4: %s: Peek behind all = %v, %d", name, v, e)
	}
	puts(t, w, 6, a, api.OK)
	drops(t, w, 6, api.OK)
	puts(t, w, 6, b, api.OK)
	if v, e := w.Peek(); !is(v, b) || e != api.OK {
		t.Fatalf("P13.6: %s: dropped and put anew: %v, %d, want %v", name, v, e, b)
	}
	passes(t, w, api.OK)
}

type point struct {
	x, y int
	name string
}

type holdsMuch struct {
	point
	list []int
	next *holdsMuch
}

// sameSlice: the same elements at the same place, and the same room.
func sameSlice[E any](a, b []E) bool {
	if a == nil || b == nil {
		return a == nil && b == nil
	}
	return len(a) == len(b) && cap(a) == cap(b) && (cap(a) == 0 || &a[:1][0] == &b[:1][0])
}

func sameMap(a, b map[string]int) bool {
	if a == nil || b == nil {
		return a == nil && b == nil
	}
	a["see"]++
	return a["see"] == b["see"]
}

func sameFunc(a, b func() int) bool {
	if a == nil || b == nil {
		return a == nil && b == nil
	}
	return a() == b()
}

func TestP13_1Kinds(t *testing.T) {
	one, two := 1, 2
	kind(t, "int", equal[int], -1, math.MaxInt)
	kind(t, "bool", equal[bool], true, false)
	kind(t, "byte", equal[byte], 1, 255)
	kind(t, "float", func(a, b float64) bool { return math.Float64bits(a) == math.Float64bits(b) }, math.NaN(), math.Copysign(0, -1))
	kind(t, "string", equal[string], "a", "b")
	kind(t, "array", equal[[3]int], [3]int{1, 2, 3}, [3]int{3})
	kind(t, "great array", equal[[300]int], [300]int{299: 1}, [300]int{1})
	kind(t, "struct", equal[point], point{1, 2, "a"}, point{3, 4, "b"})
	kind(t, "empty struct", equal[struct{}], struct{}{}, struct{}{})
	kind(t, "pointer", equal[*int], &one, &two)
	kind(t, "pointer to pointer", equal[**point], new(*point), new(*point))
	kind(t, "slice", sameSlice[int], make([]int, 2, 5), []int{})
	kind(t, "slice of bytes", sameSlice[byte], []byte("ab"), []byte("cdef")[1:2])
	kind(t, "map", sameMap, map[string]int{"a": 1}, map[string]int{})
	kind(t, "chan", equal[chan int], make(chan int), make(chan int, 3))
	kind(t, "func", sameFunc, func() int { return one }, func() int { return two })
	kind(t, "any", equal[any], any(7), any(point{1, 2, "a"}))
	kind(t, "error", equal[error], errors.New("a"), error(api.ErrOld))
	kind(t, "error that holds a nil pointer", equal[error], error((*api.Fault)(nil)), error(api.OK))
	kind(t, "window", equal[*window.Window[int]], made[int](t, 0, 1), made[int](t, 5, 1))
	kind(t, "struct that holds much", func(a, b holdsMuch) bool {
		return a.point == b.point && sameSlice(a.list, b.list) && a.next == b.next
	}, holdsMuch{point{1, 2, "a"}, []int{1}, &holdsMuch{}}, holdsMuch{list: make([]int, 0, 3)})
	kind(t, "message", func(a, b api.Msg) bool {
		return a.Code == b.Code && a.Client == b.Client && a.Rev == b.Rev && a.Seq == b.Seq && a.Op.Head == b.Op.Head && a.Op.Text == b.Op.Text && sameSlice(a.Op.Ranges, b.Op.Ranges)
	}, api.Msg{Code: api.Ack, Client: 1, Rev: 3, Seq: 1}, api.Msg{Code: api.Cast, Client: 1, Rev: 4, Op: api.Op{Head: api.Head{ID: api.ID{2, 1}, Kind: api.Hide}, Ranges: []api.Range{{Lo: 1, Hi: 2}}}})
}

// A value that was handed in is the window's own copy; what it points to is shared, as Go has it.
func TestP13_1CopiedAsGoCopies(t *testing.T) {
	w := made[holdsMuch](t, 0, 2)
	v := holdsMuch{point: point{1, 2, "a"}, list: []int{1, 2}}
	puts(t, w, 0, v, api.OK)
	v.x, v.name = 9, "changed"
	v.list[0] = 9
	got, _ := w.Peek()
	if got.x != 1 || got.name != "a" || got.list[0] != 9 {
		t.Fatalf("P13.1: %v: a struct is copied, its slice's elements are not", got)
	}
	got.y, got.list = 8, nil
	again, _ := w.Peek()
	if again.y != 2 || len(again.list) != 2 {
		t.Fatalf("P13.1: %v: what Peek has handed out was changed", again)
	}
}
