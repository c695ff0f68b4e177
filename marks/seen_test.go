package marks_test

import (
	"fmt"
	"math"
	"strings"
	"testing"

	"redraft/api"
	"redraft/desk"
	"redraft/marks"
)

// Each error of Shown, Text and Sweep, alone and with each of the others; and nothing is changed.
func TestP20_8P20_9Errors(t *testing.T) {
	s := newScene(t)
	s.write(0, 1, 0, 5)
	s.put(1, hide(1, 2, 1, 3))
	s.mark("m", 1, 4)
	shorter, longer := desk.NewReplica(), desk.NewReplica()
	shorter.Put(0, ins(1, 1, 0, "abcd"))
	longer.Put(0, ins(1, 1, 0, "abcdef"))
	for i, r := range []*desk.Replica{nil, s.r, shorter, longer, desk.NewReplica()} {
		for _, name := range []string{"m", "n", "", "M", "mm", "\xff", strings.Repeat("m", 33)} {
			want := api.ErrPlace
			switch {
			case r == nil:
				want = api.ErrHandle
			case name != "m":
				want = api.ErrUnknown
			case r == s.r:
				want = api.OK
			}
			book, view := kept(s.b), told(r)
			lo, hi, e := s.b.Shown(name, r)
			text, f := s.b.Text(name, r)
			if e != want || f != want || want != api.OK && (lo != 0 || hi != 0 || text != "") {
				t.Errorf("P20.8: view %d: Shown(%q) = %d, %d, %d, Text %q, %d, want %d", i, name, lo, hi, int(e), text, int(f), int(want))
			}
			if kept(s.b) != book || told(r) != view {
				t.Errorf("P20.1: view %d: asking for %q has changed the book, or the view", i, name)
			}
		}
		want := api.ErrPlace
		switch r {
		case nil:
			want = api.ErrHandle
		case s.r:
			want = api.OK
		}
		book, view := kept(s.b), told(r)
		list, e := s.b.Sweep(r)
		same(t, fmt.Sprintf("P20.9: view %d: Sweep", i), list, e, []string{}, want)
		if kept(s.b) != book || told(r) != view {
			t.Errorf("P20.1: view %d: Sweep has changed the book, or the view", i)
		}
	}
}

// A view without cells, and a book of none.
func TestP20_8NoCells(t *testing.T) {
	b := newBook(t, 0)
	r := desk.NewReplica()
	list, e := b.Sweep(r)
	same(t, "P20.9: Sweep of no cells", list, e, []string{}, api.OK)
	lo, hi, e := b.Shown("m", r)
	same(t, "P20.8: Shown in no cells", [2]int{lo, hi}, e, [2]int{}, api.ErrUnknown)
	list, e = b.Sweep(nil)
	same(t, "P20.9: Sweep of no view", list, e, []string{}, api.ErrHandle)
}

// Six cells, of one to four bytes, each of which is visible or not, in all ways: every stretch of them has a mark.
func TestP20_8AllStretches(t *testing.T) {
	const n = 6
	for bits := range 1 << n {
		s := newScene(t)
		s.write(0, 1, 0, n)
		var bounds []int
		for at := range n {
			if bits>>at&1 == 1 && (at == 0 || bits>>(at-1)&1 == 0) {
				bounds = append(bounds, at)
			}
			if bits>>at&1 == 1 && (at == n-1 || bits>>(at+1)&1 == 0) {
				bounds = append(bounds, at+1)
			}
		}
		if len(bounds) > 0 {
			s.put(1, hide(1, 2, bounds...))
			s.put(2, hide(2, 1, bounds[:2]...)) // some are hidden twice
		}
		for lo := range n {
			for hi := lo + 1; hi <= n; hi++ {
				s.mark(fmt.Sprintf("%d-%d", lo, hi), lo, hi)
			}
		}
		s.agree(fmt.Sprintf("hidden by %06b", bits))
	}
}

// A mark with cells that are visible, hidden in part, and hidden all: by a delete, by an undo of their insert, by both.
func TestP20_9Sweep(t *testing.T) {
	s := newScene(t)
	s.put(0, ins(1, 1, 0, "abcdef"))
	s.put(1, ins(2, 1, 3, "XYZ")) // abcXYZdef
	for _, m := range []api.Mark{mark("all", 0, 9), mark("b", 1, 2), mark("bc", 1, 3), mark("xyz", 3, 6), mark("y", 4, 5), mark("cx", 2, 4), mark("f", 8, 9), mark("abc", 0, 3)} {
		if e := s.b.Put(m); e != api.OK {
			t.Fatalf("P20.3: Put(%v) = %d", m, int(e))
		}
	}
	for i, c := range []struct {
		o    api.Op
		want []string
	}{
		{hide(1, 2, 1, 2), []string{"b"}},
		{status(2, 2, api.ID{2, 1}, false), []string{"b", "xyz", "y"}},
		{hide(1, 3, 2, 3), []string{"b", "bc", "cx", "xyz", "y"}},
		{hide(2, 3, 4, 6), []string{"b", "bc", "cx", "xyz", "y"}},
		{status(2, 4, api.ID{2, 1}, true), []string{"b", "bc", "y"}}, // X alone has come back
		{hide(1, 4, 0, 9), []string{"abc", "all", "b", "bc", "cx", "xyz", "y", "f"}},
		{status(2, 5, api.ID{1, 4}, false), []string{"b", "bc", "y"}},
		{status(2, 6, api.ID{1, 1}, false), []string{"abc", "b", "bc", "y", "f"}},
	} {
		s.put(i+2, c.o)
		list, e := s.b.Sweep(s.r)
		same(t, fmt.Sprintf("P20.9: Sweep behind %v", c.o), list, e, c.want, api.OK)
		if len(s.b.Marks()) != 8 {
			t.Errorf("P20.9: Sweep has dropped a mark: %v", s.b.Marks())
		}
	}
}

// A view is asked, not kept: what is told is of the view that is handed in, as it is then.
func TestP20_8AnyView(t *testing.T) {
	b := newBook(t, 3)
	b.Put(mark("m", 1, 3))
	one, two := desk.NewReplica(), desk.NewReplica()
	one.Put(0, ins(1, 1, 0, "abc"))
	two.Put(0, ins(1, 1, 0, "xyz"))
	for i, c := range []struct {
		r    *desk.Replica
		text string
		n    int
	}{{one, "bc", 0}, {two, "yz", 0}, {one, "bc", 0}, {two, "z", 1}, {one, "bc", 0}, {two, "", 2}} {
		if c.n > 0 {
			two.Put(c.n, hide(1, c.n+1, c.n, c.n+1))
		}
		text, e := b.Text("m", c.r)
		same(t, fmt.Sprintf("P20.8: Text number %d", i), text, e, c.text, api.OK)
		lo, hi, e := b.Shown("m", c.r)
		same(t, fmt.Sprintf("P20.8: Shown number %d", i), [2]int{lo, hi}, e, [2]int{1, 1 + len(c.text)}, api.OK)
	}
}

// All calls at far numbers: each ends, and none panics.
func TestP20_1Far(t *testing.T) {
	for _, total := range []int{0, 9, api.MaxPlace} {
		b := newBook(t, total)
		b.Put(mark("m", 0, total))
		was := kept(b)
		for _, x := range far() {
			for _, y := range far() {
				for _, o := range []api.Op{ins(x, y, 0, "a"), ins(0, 0, x, "a"), hide(0, 0, x, y), show(1, 1, x, y, y, x), status(1, 1, api.ID{x, y}, true), {Head: api.Head{Kind: api.Kind(x)}, At: y}} {
					if e := b.Follow(o); e == api.OK {
						t.Errorf("P20.5: Follow(%v) = OK", o)
					}
				}
				if e := b.Put(mark("n", x, y)); e != api.ErrPlace {
					t.Errorf("P20.3: Put(%d, %d) = %d", x, y, int(e))
				}
				if _, e := b.Over(x, y); e != api.ErrPlace {
					t.Errorf("P20.7: Over(%d, %d) = %d", x, y, int(e))
				}
			}
		}
		if kept(b) != was {
			t.Errorf("P20.1: refused calls have changed the book: %s", kept(b))
		}
	}
	if b, e := marks.New(math.MinInt); b != nil || e != api.ErrPlace {
		t.Errorf("P20.2: New = %v, %d", b, int(e))
	}
}

// More stretches of visible cells than a list of ranges may hold.
func TestManyStretches(t *testing.T) {
	r := desk.NewReplica()
	const n = 4 * api.MaxRanges
	for i := range n / api.MaxText {
		mustPut(t, r, ins(1+i/api.MaxOps, 1+i%api.MaxOps, r.Total(), strings.Repeat("a\u00e9", api.MaxText/2)))
	}
	for part := range 2 { // of each two cells the second is hidden
		var bounds []int
		for q := range api.MaxRanges {
			at := part*2*api.MaxRanges + 2*q
			bounds = append(bounds, at+1, at+2)
		}
		mustPut(t, r, hide(8, 1+part, bounds...))
	}
	b := newBook(t, n)
	for _, c := range []struct {
		m      api.Mark
		lo, hi int
	}{
		{mark("all", 0, n), 0, n / 2}, {mark("last", n-1, n), n / 2, n / 2}, {mark("last.a", n-2, n-1), n/2 - 1, n / 2}, {mark("half", n/2+1, n), n/4 + 1, n / 2}, {mark("mid", n/2-1, n/2+1), n / 4, n/4 + 1},
	} {
		if e := b.Put(c.m); e != api.OK {
			t.Fatalf("P20.3: Put(%v) = %d", c.m, int(e))
		}
		lo, hi, e := b.Shown(c.m.Name, r)
		same(t, fmt.Sprintf("P20.8: Shown(%v)", c.m), [2]int{lo, hi}, e, [2]int{c.lo, c.hi}, api.OK)
		text, e := b.Text(c.m.Name, r)
		if text != strings.Repeat("a", c.hi-c.lo) || e != api.OK {
			t.Errorf("P20.8: Text(%v) has %d bytes, %d", c.m, len(text), int(e))
		}
	}
	list, e := b.Sweep(r)
	same(t, "P20.9: Sweep", list, e, []string{"last"}, api.OK)
}

func mustPut(t *testing.T, r *desk.Replica, o api.Op) {
	t.Helper()
	if _, err := r.Put(r.Len(), o); err != nil {
		t.Fatalf("Put(%v): %v", o.ID, err)
	}
}

// As many cells as a view may have, and as many marks as a book.
func TestGreatest(t *testing.T) {
	r, b := desk.NewReplica(), newBook(t, 0)
	for n := 0; r.Total() < api.MaxPlace; n++ {
		x, err := r.Put(n, ins(1+n/api.MaxOps, 1+n%api.MaxOps, r.Total()/2, strings.Repeat("\u20ac", api.MaxText)))
		if e := b.Follow(x); err != nil || e != api.OK {
			t.Fatalf("Put and Follow number %d: %v, %d", n, err, int(e))
		}
		if n%16 == 0 {
			if e := b.Put(mark(numberedName(n/16), r.Total()-1, r.Total())); e != api.OK { // each stays at its cell, or goes on
				t.Fatalf("P20.3: Put number %d = %d", n/16, int(e))
			}
		}
	}
	if r.Total() != api.MaxPlace || b.Total() != api.MaxPlace || len(b.Marks()) != api.MaxMarks {
		t.Fatalf("Total %d, %d, %d marks", r.Total(), b.Total(), len(b.Marks()))
	}
	mustPut(t, r, hide(8, 1, 1, api.MaxPlace))
	list, e := b.Sweep(r)
	if len(list) != api.MaxMarks || e != api.OK {
		t.Errorf("P20.9: Sweep tells %d, %d", len(list), int(e))
	}
	if e := b.Drop("m000"); e != api.OK {
		t.Errorf("P20.4: Drop = %d", int(e))
	}
	if e := b.Put(mark("all", 0, api.MaxPlace)); e != api.OK {
		t.Errorf("P20.3: Put = %d", int(e))
	}
	lo, hi, e := b.Shown("all", r)
	same(t, "P20.8: Shown(all)", [2]int{lo, hi}, e, [2]int{0, 1}, api.OK)
	text, e := b.Text("all", r)
	same(t, "P20.8: Text(all)", text, e, "\u20ac", api.OK)
}
