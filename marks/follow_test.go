package marks_test

import (
	"fmt"
	"math"
	"slices"
	"strings"
	"testing"

	"redraft/api"
	"redraft/marks"
	"redraft/op"
)

// row: cells by numbers that stay with them, and the marks of a book by the numbers of their first and last cell.
type row struct {
	cells []int
	ends  map[string][2]int
}

// whole: a book in which every stretch of n cells has a mark, and its row.
func whole(t *testing.T, n int) (*marks.Book, *row) {
	t.Helper()
	b, w := newBook(t, n), &row{ends: map[string][2]int{}}
	for lo := range n {
		w.cells = append(w.cells, lo)
		for hi := lo + 1; hi <= n; hi++ {
			name := fmt.Sprintf("%d-%d", lo, hi)
			if e := b.Put(mark(name, lo, hi)); e != api.OK {
				t.Fatalf("P20.3: Put(%s) = %d", name, int(e))
			}
			w.ends[name] = [2]int{lo, hi - 1}
		}
	}
	return b, w
}

// insert: n new cells ahead of the one at the place at.
func (w *row) insert(at, n int) {
	var own []int
	for i := range n {
		own = append(own, len(w.cells)+i)
	}
	w.cells = slices.Insert(slices.Clone(w.cells), at, own...)
}

// hold: the marks are where their first and last cell are.
func (w *row) hold(t *testing.T, what string, b *marks.Book) {
	t.Helper()
	var want []api.Mark
	for name, ends := range w.ends {
		want = append(want, mark(name, slices.Index(w.cells, ends[0]), slices.Index(w.cells, ends[1])+1))
	}
	same(t, "P20.5: "+what+": Marks", b.Marks(), api.OK, inOrder(want), api.OK)
	if b.Total() != len(w.cells) {
		t.Errorf("P20.5: %s: Total %d, want %d", what, b.Total(), len(w.cells))
	}
}

// Every stretch of up to six cells, an Ins at every place, of one, two and most runes, and another one behind it.
func TestP20_5Inserts(t *testing.T) {
	for total := range 7 {
		for at := range total + 1 {
			for _, n := range []int{1, 2, api.MaxText} {
				for again := 0; again <= total+n; again += max(1, n/2) {
					b, w := whole(t, total)
					for i, o := range []api.Op{ins(0, 0, at, strings.Repeat("\u00e9", n)), ins(8, 1024, again, "\U0001f600x")} {
						if e := b.Follow(o); e != api.OK {
							t.Fatalf("P20.5: Follow(%v) = %d", o, int(e))
						}
						w.insert(o.At, len([]rune(o.Text)))
						w.hold(t, fmt.Sprintf("%d cells, at %d %d runes, at %d two more: %d", total, at, n, again, i), b)
					}
				}
			}
		}
	}
}

// One mark by itself: an Ins ahead of it, at its first cell, inside, at its last cell, right behind it, further on.
func TestP20_5Ins(t *testing.T) {
	for _, c := range []struct{ at, lo, hi int }{
		{0, 4, 7}, {1, 4, 7}, {2, 4, 7}, {3, 2, 7}, {4, 2, 7}, {5, 2, 5}, {6, 2, 5}, {9, 2, 5},
	} {
		b := newBook(t, 9)
		b.Put(mark("m", 2, 5))
		if e := b.Follow(ins(1, 1, c.at, "xy")); e != api.OK || b.Total() != 11 {
			t.Errorf("P20.5: Follow of an Ins at %d = %d, Total %d", c.at, int(e), b.Total())
		}
		same(t, fmt.Sprintf("P20.5: an Ins at %d: Marks", c.at), b.Marks(), api.OK, []api.Mark{mark("m", c.lo, c.hi)}, api.OK)
	}
}

// nothings: api.Op{}, with Ranges that have no element.
func nothings() []api.Op {
	return []api.Op{{}, {Ranges: []api.Range{}}, {Ranges: make([]api.Range, 0, 5)}}
}

// Hides and Shows, and what is nothing, change nothing; also where there is no cell, or the greatest number of them.
func TestP20_5Nothing(t *testing.T) {
	for _, total := range []int{0, 1, 9, api.MaxPlace} {
		b := newBook(t, total)
		if total > 0 {
			b.Put(mark("m", 0, 1))
			b.Put(mark("n", total-1, total))
		}
		was := kept(b)
		effects := nothings()
		if total > 0 {
			effects = append(effects, hide(1, 1, 0, 1), show(1, 1, 0, 1), hide(0, 0, 0, total), show(0, 0, 0, total), hide(8, 1024, total-1, total))
		}
		if total > 2 {
			effects = append(effects, show(0, 0, 0, 1, total-1, total), hide(0, 0, 0, 1, total-1, total))
		}
		for _, o := range effects {
			if e := b.Follow(o); e != api.OK || kept(b) != was {
				t.Errorf("P20.5: Follow(%v) of %d cells = %d, the book is %s, want %s", o, total, int(e), kept(b), was)
			}
		}
	}
}

func long(n int) string { return strings.Repeat("a", n) }

func comb(n int) api.Op {
	o := hide(1, 1)
	for i := range n {
		o.Ranges = append(o.Ranges, api.Range{Lo: 2 * i, Hi: 2*i + 1})
	}
	return o
}

// Every error of op.Check, and ErrKind of a Status: where there are ten cells.
func TestP20_5Refused(t *testing.T) {
	with := func(o api.Op, change func(*api.Op)) api.Op {
		change(&o)
		return o
	}
	extraOn := func(o *api.Op) { o.On = true }
	for _, c := range []struct {
		o api.Op
		e api.Errno
	}{
		{api.Op{At: 1}, api.ErrKind}, {api.Op{Text: "a"}, api.ErrKind}, {api.Op{On: true}, api.ErrKind}, {api.Op{Target: api.ID{1, 1}}, api.ErrKind}, {api.Op{Ranges: []api.Range{{}}}, api.ErrKind}, {api.Op{Head: api.Head{ID: api.ID{1, 1}}}, api.ErrKind}, {api.Op{Head: api.Head{ID: api.ID{0, 1}}}, api.ErrKind},
		{api.Op{Head: api.Head{Kind: 5}}, api.ErrKind}, {api.Op{Head: api.Head{Kind: -1}}, api.ErrKind}, {api.Op{Head: api.Head{Kind: math.MaxInt}}, api.ErrKind}, {api.Op{Head: api.Head{Kind: math.MinInt}}, api.ErrKind},
		{ins(9, 1, 0, "a"), api.ErrID}, {ins(0, 1, 0, "a"), api.ErrID}, {hide(1, 0, 0, 1), api.ErrID}, {show(1, 1025, 0, 1), api.ErrID}, {status(-1, 1, api.ID{1, 1}, true), api.ErrID},
		{with(ins(1, 1, 0, "a"), extraOn), api.ErrExtra}, {with(hide(1, 1, 0, 1), extraOn), api.ErrExtra}, {with(show(1, 1, 0, 1), func(o *api.Op) { o.At = 1 }), api.ErrExtra}, {with(status(1, 2, api.ID{1, 1}, true), func(o *api.Op) { o.Text = "a" }), api.ErrExtra},
		{ins(1, 1, 0, "\xff"), api.ErrUtf8}, {ins(1, 1, 0, "a\x00"), api.ErrRune}, {ins(1, 1, 0, ""), api.ErrEmpty}, {ins(1, 1, 11, ""), api.ErrEmpty}, {ins(1, 1, 0, long(257)), api.ErrLong},
		{ins(1, 1, 11, "a"), api.ErrPlace}, {ins(1, 1, -1, "a"), api.ErrPlace}, {ins(0, 0, math.MaxInt, "a"), api.ErrPlace}, {ins(0, 0, math.MinInt, "a"), api.ErrPlace},
		{hide(1, 1), api.ErrNone}, {show(0, 0), api.ErrNone}, {hide(1, 1, 3, 3), api.ErrRange}, {show(1, 1, -1, 3), api.ErrRange}, {hide(1, 1, 0, api.MaxPlace+1), api.ErrRange}, {hide(1, 1, 0, math.MaxInt), api.ErrRange}, {show(1, 1, 0, 2, 2, 4), api.ErrOrder}, {comb(api.MaxRanges + 1), api.ErrMany},
		{hide(1, 1, 9, 11), api.ErrPlace}, {show(0, 0, 0, 1, 10, 11), api.ErrPlace}, {comb(api.MaxRanges), api.ErrPlace},
		{status(1, 2, api.ID{1, 2}, true), api.ErrTarget}, {status(1, 2, api.ID{}, true), api.ErrTarget}, {status(0, 0, api.ID{9, 1}, true), api.ErrTarget},
		{status(1, 2, api.ID{1, 1}, true), api.ErrKind}, {status(1, 2, api.ID{1, 1}, false), api.ErrKind}, {status(0, 0, api.ID{8, 1024}, false), api.ErrKind},
		{ins(1, 1, 10, "a"), api.OK}, {ins(0, 0, 0, long(256)), api.OK}, {hide(1, 1, 9, 10), api.OK}, {show(8, 1024, 0, 10), api.OK},
	} {
		b := newBook(t, 10)
		b.Put(mark("m", 0, 10))
		b.Put(mark("n", 4, 5))
		was := kept(b)
		if e := b.Follow(c.o); e != c.e {
			t.Errorf("P20.5: Follow(%.99v) = %d, want %d", c.o, int(e), int(c.e))
		}
		if c.e != api.OK && kept(b) != was {
			t.Errorf("P20.1: a refused Follow(%.99v) has changed the book: %s", c.o, kept(b))
		}
		if e := op.Check(c.o, 10); c.e != e && (c.o.Kind != api.Status || e != api.OK) {
			t.Errorf("the table: Check(%.99v) = %d", c.o, int(e))
		}
	}
}

// Total at its end: what just fits, and one more.
func TestP20_5Grow(t *testing.T) {
	for _, c := range []struct {
		total, at, n int
		e            api.Errno
	}{
		{api.MaxPlace, 0, 1, api.ErrGrow}, {api.MaxPlace, api.MaxPlace, 1, api.ErrGrow}, {api.MaxPlace, api.MaxPlace + 1, 1, api.ErrPlace}, {api.MaxPlace, math.MaxInt, 256, api.ErrPlace},
		{api.MaxPlace - 1, 0, 1, api.OK}, {api.MaxPlace - 1, 0, 2, api.ErrGrow}, {api.MaxPlace - 1, api.MaxPlace - 1, 1, api.OK}, {api.MaxPlace - 1, api.MaxPlace, 1, api.ErrPlace},
		{api.MaxPlace - 256, 5, 256, api.OK}, {api.MaxPlace - 255, 5, 256, api.ErrGrow}, {api.MaxPlace - 255, 5, 257, api.ErrLong}, {0, 0, 256, api.OK}, {0, 1, 1, api.ErrPlace}, {0, 0, 257, api.ErrLong},
	} {
		b := newBook(t, c.total)
		want := c.total
		if c.e == api.OK {
			want += c.n
		}
		b.Put(mark("m", 0, c.total))
		if e := b.Follow(ins(1, 1, c.at, long(c.n))); e != c.e || b.Total() != want {
			t.Errorf("P20.5: Follow of %d runes at %d of %d = %d, Total %d, want %d, %d", c.n, c.at, c.total, int(e), b.Total(), int(c.e), want)
		}
		if m, _ := b.Mark("m"); c.e != api.OK && m.Hi != c.total {
			t.Errorf("P20.1: a refused Follow has changed the mark: %v", m)
		}
	}
}

// To the last place, from none: the first mark goes with its cell all the way.
func TestP20_5Far(t *testing.T) {
	b := newBook(t, 1)
	b.Put(mark("m", 0, 1))
	for b.Total()+api.MaxText <= api.MaxPlace {
		if e := b.Follow(ins(1, 1, 0, long(api.MaxText))); e != api.OK {
			t.Fatalf("P20.5: Follow at Total %d = %d", b.Total(), int(e))
		}
	}
	if e := b.Follow(ins(1, 1, 0, long(api.MaxPlace-b.Total()))); e != api.OK || b.Total() != api.MaxPlace {
		t.Fatalf("P20.5: the last Follow = %d, Total %d", int(e), b.Total())
	}
	m, e := b.Mark("m")
	same(t, "P20.5: Mark(m)", m, e, mark("m", api.MaxPlace-1, api.MaxPlace), api.OK)
	list, e := b.Over(api.MaxPlace-1, api.MaxPlace)
	same(t, "P20.7: Over the last place", list, e, []string{"m"}, api.OK)
	list, e = b.Over(0, api.MaxPlace-1)
	same(t, "P20.7: Over all but the last", list, e, []string{}, api.OK)
}

// What Put refuses or takes goes by Total as it is now.
func TestP20_5ThenPut(t *testing.T) {
	b := newBook(t, 0)
	if e := b.Put(mark("m", 0, 1)); e != api.ErrPlace {
		t.Errorf("P20.3: Put where no cell is = %d", int(e))
	}
	b.Follow(ins(1, 1, 0, "ab"))
	for _, c := range []struct {
		m api.Mark
		e api.Errno
	}{{mark("m", 0, 3), api.ErrPlace}, {mark("m", 0, 2), api.OK}} {
		if e := b.Put(c.m); e != c.e {
			t.Errorf("P20.3: Put(%v) = %d, want %d", c.m, int(e), int(c.e))
		}
	}
	for _, c := range []struct {
		hi int
		e  api.Errno
	}{{2, api.OK}, {3, api.ErrPlace}} {
		if _, e := b.Over(0, c.hi); e != c.e {
			t.Errorf("P20.7: Over(0, %d) = %d, want %d", c.hi, int(e), int(c.e))
		}
	}
}
