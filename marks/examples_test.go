package marks_test

import (
	"testing"

	"redraft/api"
	"redraft/desk"
	"redraft/marks"
)

func TestExampleNew(t *testing.T) {
	for _, total := range []int{-1, 1048577} {
		if b, e := marks.New(total); b != nil || e != api.ErrPlace {
			t.Errorf("P20.2: New(%d) = %v, %d", total, b, int(e))
		}
	}
}

// The chapter's table, row by row.
func TestExampleBook(t *testing.T) {
	b := newBook(t, 10)
	for _, c := range []struct {
		m api.Mark
		e api.Errno
	}{
		{mark("a", 2, 5), api.OK}, {mark("a", 2, 11), api.ErrPlace}, {mark("a", 0, 1), api.ErrThere}, {mark("A", 0, 0), api.ErrTitle},
		{mark("b", 3, 3), api.ErrPlace}, {mark("b", 2, 4), api.OK}, {mark("c", 0, 10), api.OK},
	} {
		if e := b.Put(c.m); e != c.e {
			t.Errorf("P20.3: Put(%v) = %d, want %d", c.m, int(e), int(c.e))
		}
	}
	same(t, "P20.6: Marks", b.Marks(), api.OK, []api.Mark{mark("c", 0, 10), mark("b", 2, 4), mark("a", 2, 5)}, api.OK)
	list, e := b.Over(4, 6)
	same(t, "P20.7: Over(4, 6)", list, e, []string{"c", "a"}, api.OK)
	list, e = b.Over(5, 5)
	same(t, "P20.7: Over(5, 5)", list, e, []string{}, api.OK)
	list, e = b.Over(5, 11)
	same(t, "P20.7: Over(5, 11)", list, e, []string{}, api.ErrPlace)
	exampleFollows(t, b)
	if e, f := b.Drop("b"), b.Drop("b"); e != api.OK || f != api.ErrUnknown {
		t.Errorf("P20.4: Drop = %d, %d", int(e), int(f))
	}
	m, e := b.Mark("a")
	same(t, "P20.6: Mark(a)", m, e, mark("a", 4, 9), api.OK)
	m, e = b.Mark("b")
	same(t, "P20.6: Mark(b)", m, e, api.Mark{}, api.ErrUnknown)
}

func exampleFollows(t *testing.T, b *marks.Book) {
	t.Helper()
	three := func(chi, bhi, ahi int) []api.Mark {
		return []api.Mark{mark("c", 0, chi), mark("b", 4, bhi), mark("a", 4, ahi)}
	}
	for _, c := range []struct {
		effect api.Op
		e      api.Errno
		total  int
		want   []api.Mark
	}{
		{ins(0, 0, 2, "xy"), api.OK, 12, three(12, 6, 7)},
		{ins(0, 0, 5, "z"), api.OK, 13, three(13, 7, 8)},
		{ins(0, 0, 7, "q"), api.OK, 14, three(14, 7, 9)},
		{hide(0, 0, 0, 14), api.OK, 14, three(14, 7, 9)},
		{hide(0, 0, 0, 15), api.ErrPlace, 14, three(14, 7, 9)},
		{status(1, 2, api.ID{1, 1}, false), api.ErrKind, 14, three(14, 7, 9)},
		{api.Op{}, api.OK, 14, three(14, 7, 9)},
	} {
		if e := b.Follow(c.effect); e != c.e || b.Total() != c.total {
			t.Errorf("P20.5: Follow(%v) = %d, Total %d, want %d, %d", c.effect, int(e), b.Total(), int(c.e), c.total)
		}
		same(t, "P20.5: Marks", b.Marks(), api.OK, c.want, api.OK)
	}
}

func TestExampleSeen(t *testing.T) {
	r, b := desk.NewReplica(), newBook(t, 5)
	r.Put(0, ins(1, 1, 0, "hello"))
	r.Put(1, hide(1, 2, 1, 3))
	b.Put(mark("m", 1, 4))
	b.Put(mark("n", 1, 3))
	if r.Text() != "hlo" {
		t.Fatal("the view is another one")
	}
	lo, hi, e := b.Shown("m", r)
	same(t, "P20.8: Shown(m)", [2]int{lo, hi}, e, [2]int{1, 2}, api.OK)
	text, e := b.Text("m", r)
	same(t, "P20.8: Text(m)", text, e, "l", api.OK)
	lo, hi, e = b.Shown("n", r)
	same(t, "P20.8: Shown(n)", [2]int{lo, hi}, e, [2]int{1, 1}, api.OK)
	list, e := b.Sweep(r)
	same(t, "P20.9: Sweep", list, e, []string{"n"}, api.OK)
	four := desk.NewReplica()
	four.Put(0, ins(1, 1, 0, "hell"))
	lo, hi, e = b.Shown("m", four)
	same(t, "P20.8: Shown(m) in four cells", [2]int{lo, hi}, e, [2]int{}, api.ErrPlace)
	text, e = b.Text("m", four)
	same(t, "P20.8: Text(m) in four cells", text, e, "", api.ErrPlace)
	list, e = b.Sweep(four)
	same(t, "P20.9: Sweep of four cells", list, e, []string{}, api.ErrPlace)
}

// DOC.md's ninth example: a mark, and a rune that a user writes behind its first one.
func TestExampleOfTheWhole(t *testing.T) {
	s := newScene(t)
	s.put(0, ins(1, 1, 0, "one two"))
	s.put(1, hide(1, 2, 0, 1))
	s.put(2, ins(1, 3, 1, "0"))
	s.put(3, hide(1, 4, 7, 8))
	s.put(4, ins(1, 5, 8, "0"))
	if s.r.Text() != "0ne tw0" {
		t.Fatalf("the view is another one: %q", s.r.Text())
	}
	if e := s.b.Put(mark("m", 1, 4)); e != api.OK {
		t.Fatalf("P20.3: Put = %d", int(e))
	}
	s.put(5, ins(1, 6, 2, "-"))
	lo, hi, e := s.b.Shown("m", s.r)
	same(t, "P20.8: Shown(m)", [2]int{lo, hi}, e, [2]int{0, 4}, api.OK)
	text, e := s.b.Text("m", s.r)
	same(t, "P20.8: Text(m)", text, e, "0-ne", api.OK)
}
