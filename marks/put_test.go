package marks_test

import (
	"fmt"
	"math"
	"strings"
	"testing"

	"redraft/api"
	"redraft/marks"
)

func TestP20_2New(t *testing.T) {
	for _, c := range []struct {
		total int
		e     api.Errno
	}{
		{-1, api.ErrPlace}, {0, api.OK}, {1, api.OK}, {2, api.OK}, {1048575, api.OK}, {1048576, api.OK}, {1048577, api.ErrPlace}, {-1048576, api.ErrPlace},
		{math.MinInt, api.ErrPlace}, {math.MinInt + 1, api.ErrPlace}, {math.MinInt32, api.ErrPlace}, {math.MaxInt32, api.ErrPlace}, {1 << 32, api.ErrPlace}, {math.MaxInt - 1, api.ErrPlace}, {math.MaxInt, api.ErrPlace},
	} {
		b, e := marks.New(c.total)
		if e != c.e || (b == nil) != (e != api.OK) {
			t.Errorf("P20.2: New(%d) = %v, %d, want %d", c.total, b, int(e), int(c.e))
		}
		if b != nil && (b.Total() != c.total || len(b.Marks()) != 0) {
			t.Errorf("P20.2: New(%d) has Total %d, marks %v", c.total, b.Total(), b.Marks())
		}
	}
}

// Two books have nothing to do with one another.
func TestP20_2Apart(t *testing.T) {
	a, b := newBook(t, 9), newBook(t, 9)
	a.Put(mark("m", 1, 2))
	a.Follow(ins(1, 1, 0, "x"))
	if kept(b) != kept(newBook(t, 9)) {
		t.Errorf("P20.2: another book has changed: %s", kept(b))
	}
}

// letters: the bytes that a name may have, written out.
const letters = "abcdefghijklmnopqrstuvwxyz0123456789.-_"

// Every byte, alone, first, midmost and last.
func TestP20_3Bytes(t *testing.T) {
	for c := range 256 {
		one := string([]byte{byte(c)})
		want := api.ErrTitle
		if strings.Contains(letters, one) {
			want = api.OK
		}
		for _, name := range []string{one, one + "a", "a" + one, "a" + one + "b", one + one, strings.Repeat("z", 31) + one, one + strings.Repeat("z", 31)} {
			b := newBook(t, 1)
			if e := b.Put(mark(name, 0, 1)); e != want {
				t.Errorf("P20.3: Put of the name %q = %d, want %d", name, int(e), int(want))
			}
			m, e := b.Mark(name)
			if want == api.OK {
				same(t, fmt.Sprintf("P20.3: Mark(%q)", name), m, e, mark(name, 0, 1), api.OK)
			} else {
				same(t, fmt.Sprintf("P20.3: Mark(%q)", name), m, e, api.Mark{}, api.ErrUnknown)
			}
		}
	}
}

func TestP20_3Lengths(t *testing.T) {
	for n := range 70 {
		want := api.OK
		if n < 1 || n > 32 {
			want = api.ErrTitle
		}
		for c := range len(letters) {
			name := strings.Repeat(letters[c:c+1], n)
			if e := newBook(t, 1).Put(mark(name, 0, 1)); e != want {
				t.Errorf("P20.3: Put of a name of %d bytes %q = %d, want %d", n, name, int(e), int(want))
			}
		}
	}
	for _, name := range []string{"\u00e9", "a\u00e9", "\u65e5", "\uff41", "\u0430", "a b", "a\n", "a\x00", "\xff", "a\xc3", "K", "aZ", "a/b", "a:b", "a,b", "\u00b2", "\u0131", strings.Repeat("z", 1<<20), strings.Repeat("\u00e9", 16)} {
		if e := newBook(t, 1).Put(mark(name, 0, 1)); e != api.ErrTitle {
			t.Errorf("P20.3: Put of the name %.40q = %d, want ErrTitle", name, int(e))
		}
	}
}

// Names are compared byte by byte: one that begins like another is another one.
func TestP20_3UnlikeNames(t *testing.T) {
	b := newBook(t, 1)
	for n := range 32 {
		if e := b.Put(mark(strings.Repeat("a", n+1), 0, 1)); e != api.OK {
			t.Errorf("P20.3: Put of %d bytes = %d", n+1, int(e))
		}
		if e := b.Put(mark(strings.Repeat("a", n+1), 0, 1)); e != api.ErrThere {
			t.Errorf("P20.3: Put of %d bytes again = %d, want ErrThere", n+1, int(e))
		}
	}
}

// All pairs of ends of small books and of the greatest, and far numbers.
func TestP20_3Places(t *testing.T) {
	for _, total := range []int{0, 1, 2, 5, api.MaxPlace - 1, api.MaxPlace} {
		ends := append(places(6), total-1, total, total+1, total+2)
		for _, lo := range ends {
			for _, hi := range ends {
				want := api.ErrPlace
				if lo >= 0 && hi > lo && hi <= total {
					want = api.OK
				}
				b := newBook(t, total)
				was := kept(b)
				if e := b.Put(mark("m", lo, hi)); e != want {
					t.Errorf("P20.3: Put of %d-%d of %d = %d, want %d", lo, hi, total, int(e), int(want))
				}
				if want != api.OK && kept(b) != was {
					t.Errorf("P20.1: a refused Put has changed the book: %s", kept(b))
				}
				if m, _ := b.Mark("m"); want == api.OK && m != mark("m", lo, hi) {
					t.Errorf("P20.3: Put of %d-%d: the mark is %v", lo, hi, m)
				}
			}
		}
	}
}

func numberedName(n int) string { return fmt.Sprintf("m%03d", n) }

// filled: a book with n marks.
func filled(t *testing.T, total, n int) *marks.Book {
	t.Helper()
	b := newBook(t, total)
	for i := range n {
		if e := b.Put(mark(numberedName(i), i%total, i%total+1)); e != api.OK {
			t.Fatalf("P20.3: Put of mark number %d = %d", i+1, int(e))
		}
	}
	return b
}

func TestP20_3Most(t *testing.T) {
	b := filled(t, 7, 256)
	was := kept(b)
	for _, c := range []struct {
		m api.Mark
		e api.Errno
	}{
		{mark("new", 0, 1), api.ErrMarks}, {mark("m000", 0, 1), api.ErrThere}, {mark("m255", 3, 7), api.ErrThere}, {mark("new", 3, 3), api.ErrPlace}, {mark("NEW", 3, 4), api.ErrTitle},
	} {
		if e := b.Put(c.m); e != c.e || kept(b) != was {
			t.Errorf("P20.3: Put(%v) into a full book = %d, want %d", c.m, int(e), int(c.e))
		}
	}
	if e := b.Drop("m100"); e != api.OK {
		t.Errorf("P20.4: Drop = %d", int(e))
	}
	for _, c := range []struct {
		name string
		e    api.Errno
	}{{"new", api.OK}, {"m100", api.ErrMarks}, {"new", api.ErrThere}} {
		if e := b.Put(mark(c.name, 0, 7)); e != c.e || len(b.Marks()) != 256 {
			t.Errorf("P20.3: Put(%s) behind a Drop = %d, want %d; %d marks", c.name, int(e), int(c.e), len(b.Marks()))
		}
	}
	for i := range 255 {
		if c := filled(t, 7, i); len(c.Marks()) != i {
			t.Fatalf("P20.3: %d marks of %d", len(c.Marks()), i)
		}
	}
}

// Each error with each of the others: the one that is named first.
func TestP20_3Order(t *testing.T) {
	for _, title := range []struct {
		name  string
		wrong bool
	}{{"", true}, {"A", true}, {strings.Repeat("a", 33), true}, {"m007", false}, {"new", false}} {
		for _, at := range []struct {
			lo, hi int
			wrong  bool
		}{{0, 7, false}, {6, 7, false}, {6, 8, true}, {-1, 3, true}, {3, 3, true}, {4, 3, true}, {math.MinInt, math.MaxInt, true}, {math.MaxInt, math.MinInt, true}, {0, math.MinInt, true}, {math.MaxInt, math.MaxInt, true}, {7, 8, true}} {
			for _, n := range []int{0, 255, 256} {
				want := api.OK
				switch {
				case title.wrong:
					want = api.ErrTitle
				case at.wrong:
					want = api.ErrPlace
				case title.name == "m007" && n > 7:
					want = api.ErrThere
				case n == 256:
					want = api.ErrMarks
				}
				b := filled(t, 7, n)
				was := kept(b)
				if e := b.Put(mark(title.name, at.lo, at.hi)); e != want {
					t.Errorf("P20.3: Put(%.9q, %d, %d) where %d marks are = %d, want %d", title.name, at.lo, at.hi, n, int(e), int(want))
				}
				if (kept(b) == was) != (want != api.OK) {
					t.Errorf("P20.1: behind Put(%.9q, %d, %d) the book is %s", title.name, at.lo, at.hi, kept(b))
				}
			}
		}
	}
}

func TestP20_4Drop(t *testing.T) {
	b := newBook(t, 9)
	for _, name := range []string{"", "a", "A", "\xff", strings.Repeat("a", 33)} {
		if e := b.Drop(name); e != api.ErrUnknown {
			t.Errorf("P20.4: Drop(%q) of an empty book = %d", name, int(e))
		}
	}
	b.Put(mark("a", 1, 2))
	b.Put(mark("aa", 1, 2))
	b.Put(mark("b", 0, 9))
	for _, name := range []string{"", "A", "a ", "a\x00", "aaa", "c", "\xff"} {
		was := kept(b)
		if e := b.Drop(name); e != api.ErrUnknown || kept(b) != was {
			t.Errorf("P20.4: Drop(%q) = %d, the book is %s", name, int(e), kept(b))
		}
	}
	if e := b.Drop("a"); e != api.OK {
		t.Errorf("P20.4: Drop(a) = %d", int(e))
	}
	same(t, "P20.4: Marks", b.Marks(), api.OK, []api.Mark{mark("b", 0, 9), mark("aa", 1, 2)}, api.OK)
	m, e := b.Mark("a")
	same(t, "P20.4: Mark(a)", m, e, api.Mark{}, api.ErrUnknown)
	if e := b.Drop("a"); e != api.ErrUnknown {
		t.Errorf("P20.4: Drop(a) again = %d", int(e))
	}
	if e := b.Put(mark("a", 4, 6)); e != api.OK { // elsewhere, as if it had never been
		t.Errorf("P20.4: Put(a) again = %d", int(e))
	}
	b.Follow(ins(1, 1, 3, "xy"))
	same(t, "P20.4: Marks", b.Marks(), api.OK, []api.Mark{mark("b", 0, 11), mark("aa", 1, 2), mark("a", 6, 8)}, api.OK)
	for _, name := range []string{"b", "a", "aa"} {
		if e := b.Drop(name); e != api.OK {
			t.Errorf("P20.4: Drop(%s) = %d", name, int(e))
		}
	}
	if len(b.Marks()) != 0 || b.Total() != 11 {
		t.Errorf("P20.4: an empty book: %s", kept(b))
	}
}
