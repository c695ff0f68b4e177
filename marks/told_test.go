package marks_test

import (
	"fmt"
	"math"
	"math/rand"
	"strings"
	"testing"

	"redraft/api"
)

// in: by the order of marks, each ahead of the next: by Lo, of one Lo by Hi, of both alike by name, in the order of bytes.
func in() []api.Mark {
	return []api.Mark{
		mark("z", 0, 1), mark("a", 0, 2), mark("b", 0, 2), mark("0", 0, 9), mark("zz", 1, 2),
		mark("-", 1, 9), mark(".", 1, 9), mark("0", 1, 9), mark("00", 1, 9), mark("1", 1, 9), mark("10", 1, 9), mark("9", 1, 9), mark("_", 1, 9), mark("a", 1, 9), mark("a-", 1, 9), mark("a.", 1, 9), mark("a0", 1, 9), mark("a_", 1, 9), mark("aa", 1, 9), mark("ab", 1, 9), mark("b", 1, 9), mark("z", 1, 9),
		mark("y", 2, 3), mark("x", 2, 11), mark("w", 10, 11), mark("v", 10, 12),
	}
}

// Whatever the order of the Puts, and whatever was dropped between them.
func TestP20_6Order(t *testing.T) {
	list := in()
	var names []string
	for i := range list { // a name may stand there only once
		if i < 5 || i > 21 {
			list[i].Name += "-only" + fmt.Sprint(i)
		}
		names = append(names, list[i].Name)
	}
	r := rand.New(rand.NewSource(2001))
	for range 200 {
		b := newBook(t, 12)
		for _, i := range r.Perm(len(list)) {
			b.Put(mark("gone", 3, 4))
			if e := b.Put(list[i]); e != api.OK {
				t.Fatalf("P20.3: Put(%v) = %d", list[i], int(e))
			}
			b.Drop("gone")
		}
		same(t, "P20.6: Marks", b.Marks(), api.OK, list, api.OK)
		over, e := b.Over(0, 12)
		same(t, "P20.7: Over all", over, e, names, api.OK)
		over, e = b.Over(2, 9)
		same(t, "P20.7: Over(2, 9)", over, e, append(append([]string{}, names[3]), names[5:24]...), api.OK)
	}
}

// As many marks as there may be, of one Lo and one Hi: a map's order would show.
func TestP20_6Many(t *testing.T) {
	b := newBook(t, 3)
	var want []api.Mark
	for i := range 256 {
		want = append(want, mark(numberedName(i), 1, 2))
		b.Put(mark(numberedName(i*37%256), 1, 2))
	}
	for range 5 {
		same(t, "P20.6: Marks", b.Marks(), api.OK, want, api.OK)
		over, e := b.Over(0, 3)
		for i, name := range over {
			if name != numberedName(i) || e != api.OK {
				t.Fatalf("P20.7: Over tells %s as number %d", name, i)
			}
		}
		if len(over) != 256 {
			t.Errorf("P20.7: Over tells %d", len(over))
		}
	}
}

func TestP20_6Empty(t *testing.T) {
	b := newBook(t, 9)
	same(t, "P20.6: Marks of an empty book", b.Marks(), api.OK, []api.Mark{}, api.OK)
	for _, name := range []string{"", "a", "A", "\xff", strings.Repeat("a", 33)} {
		m, e := b.Mark(name)
		same(t, fmt.Sprintf("P20.6: Mark(%q)", name), m, e, api.Mark{}, api.ErrUnknown)
	}
	list, e := b.Over(0, 9)
	same(t, "P20.7: Over of an empty book", list, e, []string{}, api.OK)
}

func TestP20_6Mark(t *testing.T) {
	b := newBook(t, 9)
	b.Put(mark("a", 1, 2))
	b.Put(mark("aa", 2, 9))
	for _, c := range []struct {
		name string
		want api.Mark
		e    api.Errno
	}{
		{"a", mark("a", 1, 2), api.OK}, {"aa", mark("aa", 2, 9), api.OK}, {"", api.Mark{}, api.ErrUnknown}, {"A", api.Mark{}, api.ErrUnknown}, {"aaa", api.Mark{}, api.ErrUnknown}, {"a\x00", api.Mark{}, api.ErrUnknown}, {"b", api.Mark{}, api.ErrUnknown}, {"\xff", api.Mark{}, api.ErrUnknown},
	} {
		m, e := b.Mark(c.name)
		same(t, fmt.Sprintf("P20.6: Mark(%q)", c.name), m, e, c.want, c.e)
	}
}

// cellIn: has the mark a cell with a place lo to hi-1?
func cellIn(m api.Mark, lo, hi int) bool {
	for p := m.Lo; p < m.Hi; p++ {
		if lo <= p && p < hi {
			return true
		}
	}
	return false
}

// Every stretch of every small row, over every stretch, and all that is no stretch of it.
func TestP20_7Over(t *testing.T) {
	for total := range 7 {
		b, _ := whole(t, total)
		for _, lo := range places(total + 1) {
			for _, hi := range places(total + 1) {
				var want []string
				wantE := api.ErrPlace
				if 0 <= lo && lo <= hi && hi <= total {
					wantE = api.OK
					for _, m := range b.Marks() {
						if cellIn(m, lo, hi) {
							want = append(want, m.Name)
						}
					}
				}
				list, e := b.Over(lo, hi)
				same(t, fmt.Sprintf("P20.7: Over(%d, %d) of %d", lo, hi, total), list, e, want, wantE)
			}
		}
	}
}

// At the edges of one mark.
func TestP20_7Edges(t *testing.T) {
	b := newBook(t, 9)
	b.Put(mark("m", 3, 6))
	for _, c := range []struct {
		lo, hi int
		has    bool
	}{
		{0, 3, false}, {0, 4, true}, {3, 3, false}, {3, 4, true}, {2, 3, false}, {4, 4, false}, {4, 5, true}, {5, 6, true}, {5, 5, false}, {6, 6, false}, {6, 7, false}, {6, 9, false}, {0, 9, true}, {0, 0, false}, {9, 9, false},
	} {
		list, e := b.Over(c.lo, c.hi)
		var want []string
		if c.has {
			want = []string{"m"}
		}
		same(t, fmt.Sprintf("P20.7: Over(%d, %d)", c.lo, c.hi), list, e, want, api.OK)
	}
	for _, c := range [][2]int{{-1, 3}, {4, 3}, {0, 10}, {9, 10}, {10, 10}, {math.MinInt, math.MaxInt}, {math.MaxInt, math.MinInt}, {math.MinInt, 0}, {0, math.MaxInt}, {math.MaxInt, math.MaxInt}, {math.MinInt, math.MinInt}} {
		list, e := b.Over(c[0], c[1])
		same(t, fmt.Sprintf("P20.7: Over(%d, %d)", c[0], c[1]), list, e, []string{}, api.ErrPlace)
	}
}
