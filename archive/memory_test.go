package archive_test

import (
	"bytes"
	"slices"
	"sync"
	"testing"
	"unsafe"

	"redraft/api"
	"redraft/archive"
	"redraft/desk"
	"redraft/op"
)

// overwrite: all of a list's memory, spare room too, and what an append writes.
func overwrite[T any](l []T, with T) {
	whole := l[:cap(l)]
	for i := range whole {
		whole[i] = with
	}
	_ = append(l, with, with)
}

// room: where a list, or a string, lies in memory.
type room struct{ lo, hi uintptr }

func roomOf[T any](l []T) room {
	var one T
	lo := uintptr(unsafe.Pointer(unsafe.SliceData(l)))
	return room{lo, lo + uintptr(cap(l))*unsafe.Sizeof(one)}
}

func roomOfText(s string) room {
	lo := uintptr(unsafe.Pointer(unsafe.StringData(s)))
	return room{lo, lo + uintptr(len(s))}
}

func (x room) meets(y room) bool {
	return x.lo < x.hi && y.lo < y.hi && x.lo < y.hi && y.lo < x.hi
}

// roomy: commands of which every list and text has memory of its own, more than one byte each.
func roomy() []api.Op {
	return []api.Op{
		ins(1, 1, 0, "hello, all"), ins(2, 1, 4, "\u20ac\u20ac"), hide(1, 2, 0, 2, 4, 5, 7, 9), status(2, 2, api.ID{1, 2}, false), hide(3, 1, 1, 3), ins(3, 2, 12, "end"),
	}
}

// answers: all bytes and lists that the calls answer, of an archive, a longer one, a delta and a wreck.
type answers struct {
	bytes [][]byte
	ops   []api.Op
}

func ask(t *testing.T, r *desk.Replica, b, longer, delta, wreck []byte) answers {
	t.Helper()
	var out answers
	add := func(x []byte, e api.Errno) {
		if e != api.OK {
			t.Fatalf("an answer is %d", e)
		}
		out.bytes = append(out.bytes, x)
	}
	add(archive.Save(r))
	add(archive.Cut(b, 3))
	add(archive.Cut(b, len(roomy())))
	for _, pair := range [][2][]byte{{b, longer}, {longer, b}, {b, b}} {
		x, _, e := archive.Join(pair[0], pair[1])
		add(x, e)
	}
	add(archive.Delta(b, longer))
	add(archive.Delta(b, b))
	add(archive.Patch(b, delta))
	x, _, e := archive.Rescue(wreck)
	add(x, e)
	x, _, e = archive.Rescue(b)
	add(x, e)
	ops, e := archive.Ops(b)
	if e != api.OK {
		t.Fatalf("an answer is %d", e)
	}
	out.ops = ops
	return out
}

func (a answers) rooms() []room {
	out := []room{roomOf(a.ops)}
	for _, x := range a.bytes {
		out = append(out, roomOf(x))
	}
	for _, o := range a.ops {
		out = append(out, roomOfText(o.Text), roomOf(o.Ranges))
	}
	return out
}

func (a answers) clone() answers {
	out := answers{}
	for _, x := range a.bytes {
		out.bytes = append(out.bytes, bytes.Clone(x))
	}
	for _, o := range a.ops {
		out.ops = append(out.ops, op.Clone(o))
	}
	return out
}

func (a answers) same(b answers) bool {
	return slices.EqualFunc(a.bytes, b.bytes, bytes.Equal) && sameOps(a.ops, b.ops)
}

func (a answers) overwrite() {
	for _, x := range a.bytes {
		overwrite(x, 0xee)
	}
	for _, o := range a.ops {
		overwrite(o.Ranges, api.Range{Lo: -7, Hi: -8})
	}
	overwrite(a.ops, ins(8, 8, 8, "overwritten"))
}

func TestP22_1Memory(t *testing.T) {
	ops := roomy()
	more := []api.Op{ins(4, 1, 0, "more"), hide(4, 2, 1, 2)}
	r := viewOfAll(t, ops)
	twin := viewOfAll(t, ops)
	b, longer, delta := own(archiveOf(ops...)), own(archiveOf(append(slices.Clone(ops), more...)...)), own(deltaOf(ops, more))
	wreck := own(join(b[:60], b[30:]))
	was := [][]byte{bytes.Clone(b), bytes.Clone(longer), bytes.Clone(delta), bytes.Clone(wreck)}
	first, second := ask(t, r, b, longer, delta, wreck), ask(t, r, b, longer, delta, wreck)
	want := first.clone()
	if !second.same(want) {
		t.Fatalf("P22.1: two answers are not the same")
	}
	rooms := append(first.rooms(), second.rooms()...)
	for _, x := range [][]byte{b, longer, delta, wreck} {
		rooms = append(rooms, roomOf(x[:cap(x)]))
	}
	for i, x := range rooms {
		for k, y := range rooms[:i] {
			if x.meets(y) {
				t.Errorf("P22.1: what is answered shares memory (%d and %d)", k, i)
			}
		}
	}
	first.overwrite()
	if !second.same(want) || !ask(t, r, b, longer, delta, wreck).same(want) {
		t.Errorf("P22.1: what was written into one answer is seen in another")
	}
	if !sameView(t, r, twin) {
		t.Errorf("P22.1: what was written into an answer is seen in the view")
	}
	for i, x := range [][]byte{b, longer, delta, wreck} {
		untouched(t, x, was[i], "a call")
		overwrite(x, 0x55)
	}
	if !second.same(want) {
		t.Errorf("P22.1: what was written into what was handed in is seen in an answer")
	}
}

// A view that was loaded is one of its own: it keeps nothing of the bytes, and no other one sees what is done to it.
func TestP22_1LoadedViews(t *testing.T) {
	ops := roomy()
	b := archiveOf(ops...)
	x, y := loaded(t, b), loaded(t, b)
	if x == y {
		t.Fatal("P22.1: two calls of Load have answered one view")
	}
	overwrite(b, 0x55)
	twin := viewOfAll(t, ops)
	if !sameView(t, x, twin) || !sameView(t, y, twin) {
		t.Errorf("P22.1: a view has kept the bytes that it was loaded from")
	}
	put(t, x, 0, ins(5, 1, 0, "only here"))
	put(t, x, x.Len(), status(5, 2, api.ID{1, 1}, false))
	if !sameView(t, y, twin) {
		t.Errorf("P22.1: what is done to one loaded view is seen in another")
	}
	s := saved(t, y)
	put(t, y, y.Len(), ins(5, 1, 0, "later"))
	if !bytes.Equal(s, archiveOf(ops...)) {
		t.Errorf("P22.1: what was saved has changed with the view")
	}
}

// Nothing is kept from call to call: many at a time answer what one alone does.
func TestP22_1AtOneTime(t *testing.T) {
	b := archiveOf(roomy()...)
	want := func(k int) []byte { return archiveOf(roomy()[:k]...) }
	var wait sync.WaitGroup
	bad := make([]int, 7)
	for k := range bad {
		wait.Go(func() {
			for range 20 {
				part, e := archive.Cut(b, k)
				_, n, f := archive.Rescue(b[:len(part)-1])
				j, shared, g := archive.Join(part, b)
				if e != api.OK || f != api.OK || g != api.OK || n > len(part) || shared != k || !bytes.Equal(part, want(k)) || !bytes.Equal(j, b) {
					bad[k]++
				}
			}
		})
	}
	wait.Wait()
	for k, n := range bad {
		if n > 0 {
			t.Errorf("P22.1: %d answers of %d were others, when many asked at one time", n, k)
		}
	}
}
