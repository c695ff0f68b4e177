package world_test

import (
	"bytes"
	"slices"
	"strings"
	"testing"
	"unsafe"

	"redraft/api"
	"redraft/world"
)

// overwrite: all of a list's memory, spare room too, and what an append writes.
func overwrite[T any](l []T, with T) {
	whole := l[:cap(l)]
	for i := range whole {
		whole[i] = with
	}
	_ = append(l, with, with)
}

// stretch: where a list lies in memory, spare room counted.
type stretch struct{ lo, hi uintptr }

func stretchOf[T any](l []T) stretch {
	var one T
	lo := uintptr(unsafe.Pointer(unsafe.SliceData(l)))
	return stretch{lo, lo + uintptr(cap(l))*unsafe.Sizeof(one)}
}

// apart: no two of them have a byte of memory in common.
func apart(t *testing.T, list []stretch) {
	t.Helper()
	for i, a := range list {
		for _, b := range list[:i] {
			if a.lo < a.hi && b.lo < b.hi && a.lo < b.hi && b.lo < a.hi {
				t.Fatal("rule 11: two lists share memory")
			}
		}
	}
}

// handout: all lists that a world hands out.
type handout struct {
	views   []api.View
	order   []api.ID
	flights []api.Flight
	files   []api.File
	ops     [][]api.Op
}

func handoutOf(w *world.World) handout {
	h := handout{views: w.Views(), order: w.Order(), flights: w.Flights(), files: w.Files()}
	for n := range len(h.views) {
		ops, _ := w.Ops(n)
		h.ops = append(h.ops, ops)
	}
	return h
}

func (h handout) stretches() []stretch {
	out := []stretch{stretchOf(h.views), stretchOf(h.order), stretchOf(h.flights), stretchOf(h.files)}
	for _, f := range h.flights {
		out = append(out, stretchOf(f.Packet.Bytes))
	}
	for _, f := range h.files {
		out = append(out, stretchOf(f.Bytes))
	}
	for _, ops := range h.ops {
		out = append(out, stretchOf(ops))
		for _, o := range ops {
			out = append(out, stretchOf(o.Ranges))
		}
	}
	return out
}

// spoilAll: everything that was handed out is written over and appended to.
func (h handout) spoilAll() {
	for _, f := range h.flights {
		overwrite(f.Packet.Bytes, 0xee)
	}
	for _, f := range h.files {
		overwrite(f.Bytes, 0xee)
	}
	for _, ops := range h.ops {
		for _, o := range ops {
			overwrite(o.Ranges, api.Range{Lo: -7, Hi: -7})
		}
		overwrite(ops, api.Op{At: -7})
	}
	overwrite(h.views, api.View{Node: -7})
	overwrite(h.order, api.ID{-7, -7})
	overwrite(h.flights, api.Flight{Number: -7})
	overwrite(h.files, api.File{Name: "seven"})
}

// busyDay: steps of all kinds, with much under way at the end of each.
func busyDay() []api.Step {
	return []api.Step{
		join(1), join(2), ins(1, 0, "abcdef"), tick(1), deliver(0), tick(0), deliver(2), tick(2), deliver(3), del(1, 1, 2), del(1, 2, 1), undo(1), tick(1), tick(0), double(4), spoil(5, 3, 9),
		deliver(4), ins(2, 0, "xyz"), off(2, 1, 1), tick(2), deliver(5), deliver(6), tick(0), arm(2, 9), ins(1, 0, "é€"), deliver(7), tick(1), tick(2), view(0), deliver(8), deliver(9), tick(0), boot(1, 0), boot(0, 0),
		junk(1, "junk"), settle(), redo(1), tick(1), tick(2),
	}
}

// Rule 11: what is handed out is new memory, each list of its own, spare room too; nobody sees what is written into it, behind every step; and what was handed out stays as it is.
func TestHandedOut(t *testing.T) {
	x := newPair(t, room)
	var kept []*world.World
	var said []string
	for i, s := range busyDay() {
		x.do(s)
		a, b := handoutOf(x.w), handoutOf(x.w)
		apart(t, append(a.stretches(), b.stretches()...))
		a.spoilAll()
		x.see()
		// Handed in elsewhere, it makes worlds that have nothing to do with this one.
		if other, e := world.Open(room, b.files); e == api.OK {
			kept, said = append(kept, other), append(said, toldBy(other))
		}
		if i%3 == 0 {
			b.spoilAll()
			x.see()
		}
	}
	for i, w := range kept {
		if got := toldBy(w); got != said[i] {
			t.Fatalf("rule 11: world %d was %s and has become %s", i, said[i], got)
		}
	}
}

// Rule 11: what was handed out stays as it is, whatever the world goes through.
func TestHandedOutStays(t *testing.T) {
	x := newPair(t, room)
	var kept []handout
	var said []string
	text := func(h handout) string {
		var b strings.Builder
		for _, ops := range h.ops {
			b.WriteString(strings.Join(lines(ops), " ") + ";")
		}
		for _, v := range h.views {
			b.WriteString(v.Text + ";")
		}
		return b.String() + flightTexts(h.flights) + fileTexts(h.files)
	}
	for _, s := range busyDay() {
		x.do(s)
		h := handoutOf(x.w)
		kept, said = append(kept, h), append(said, text(h))
	}
	for i, h := range kept {
		if got := text(h); got != said[i] {
			t.Fatalf("rule 11: what was handed out as %s has become %s", said[i], got)
		}
	}
}

// Rule 11: the files that Open is handed are neither changed nor kept.
func TestHandedInFiles(t *testing.T) {
	b := fileOf(history...)
	for _, tail := range []int{0, 5} { // with and without bytes that are cut off
		whole := append(bytes.Clone(b), bytes.Repeat([]byte{0xa5}, 40)...)
		files := slices.Grow([]api.File{{Name: "zebra", Bytes: []byte("loose")}, {Name: "journal", Bytes: whole[:len(b)+tail], Synced: 3}}, 3)
		before, shown := slices.Clone(files), bytes.Clone(whole)
		w, e := world.Open(roomOfThree, files)
		if e != api.OK {
			t.Fatalf("P17.1: Open: %d", int(e))
		}
		if !bytes.Equal(whole, shown) || !slices.EqualFunc(files, before, sameFile) {
			t.Fatal("rule 11: Open has changed what it was handed")
		}
		said := toldBy(w)
		overwrite(whole, 0xee)
		overwrite(files[0].Bytes, 0xee)
		overwrite(files, api.File{Name: "seven"})
		if got := toldBy(w); got != said {
			t.Fatalf("rule 11: %s has become %s", said, got)
		}
		other := openPair(t, roomOfThree, journalOf(b, len(b)))
		for _, s := range []api.Step{join(1), join(3), tick(1), settle()} {
			if got, want := w.Play(s), other.w.Play(s); got != want {
				t.Fatalf("rule 11: %s: %+v, want %+v", stepText(s), got, want)
			}
		}
	}
}

// Rule 11: the steps that Run is handed are neither changed nor kept, and its answers are new memory.
func TestHandedInSteps(t *testing.T) {
	steps := append(make([]api.Step, 0, 100), busyDay()...)
	before := slices.Clone(steps)
	spare := slices.Clone(steps[:cap(steps)])
	answers, views, e := world.Run(room, steps)
	if e != api.OK || !slices.Equal(steps, before) || !slices.Equal(steps[:cap(steps)], spare) {
		t.Fatalf("rule 11: Run has changed what it was handed, %d", int(e))
	}
	said, shown := slices.Clone(answers), slices.Clone(views)
	overwrite(steps, api.Step{Kind: -7})
	apart(t, []stretch{stretchOf(answers), stretchOf(views), stretchOf(steps)})
	if !slices.Equal(answers, said) || !slices.Equal(views, shown) {
		t.Fatal("rule 11: Run's answers share memory with its steps")
	}
	overwrite(answers, api.Answer{N: -7})
	overwrite(views, api.View{Node: -7})
	answers, views, _ = world.Run(room, before)
	if !slices.Equal(answers, said) || !slices.Equal(views, shown) {
		t.Fatal("rule 11: Run's answers are not its own")
	}
}

// Rule 13: lists without elements, nil or not, are one and the same.
func TestNilOrEmpty(t *testing.T) {
	for _, files := range [][]api.File{nil, {}, make([]api.File, 0, 4)} {
		w, e := world.Open(room, files)
		if e != api.OK {
			t.Fatalf("rule 13: Open: %d", int(e))
		}
		isEmpty(t, w, room)
	}
	for _, b := range [][]byte{nil, {}} {
		x := openPair(t, room, journalOf(b, 0))
		x.all(join(1), ins(1, 0, "a"), tick(1), deliver(0))
	}
}
