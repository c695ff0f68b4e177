package rope_test

import (
	"slices"
	"strings"
	"testing"

	"redraft/api"
	"redraft/rope"
)

// hello: the cells of the chapter's first example, h0 e1 l1 l0 o0.
func hello(t *testing.T) *rope.Rope {
	t.Helper()
	r := rope.New()
	if e := r.Insert(0, "hello", 0); e != api.OK {
		t.Fatalf("Insert: %d", e)
	}
	if r.Total() != 5 || r.Shown() != 5 || r.Text() != "hello" || !slices.Equal(r.Runs(), []api.Run{{Text: "hello"}}) {
		t.Fatalf("hello: %d, %d, %q, %v", r.Total(), r.Shown(), r.Text(), r.Runs())
	}
	if e := r.Bump(list(1, 3), 1); e != api.OK {
		t.Fatalf("Bump: %d", e)
	}
	return r
}

func TestExample1(t *testing.T) {
	r := hello(t)
	if r.Shown() != 3 || r.Text() != "hlo" || !slices.Equal(r.Runs(), []api.Run{{Text: "h"}, {Text: "el", Hid: 1}, {Text: "lo"}}) {
		t.Errorf("hlo: %d, %q, %v", r.Shown(), r.Text(), r.Runs())
	}
}

func TestExample2(t *testing.T) {
	r := hello(t)
	for p, want := range []int{0, 3, 4, 5} {
		if got, e := r.TotalOf(p); got != want || e != api.OK {
			t.Errorf("TotalOf(%d) = %d, %d", p, got, e)
		}
	}
	if got, e := r.TotalOf(4); got != 0 || e != api.ErrPlace {
		t.Errorf("TotalOf(4) = %d, %d", got, e)
	}
	for _, c := range [][2]int{{0, 0}, {1, 1}, {3, 1}, {4, 2}, {5, 3}} {
		if got, e := r.ShownBefore(c[0]); got != c[1] || e != api.OK {
			t.Errorf("ShownBefore(%d) = %d, %d", c[0], got, e)
		}
	}
	if got, e := r.ShownBefore(6); got != 0 || e != api.ErrPlace {
		t.Errorf("ShownBefore(6) = %d, %d", got, e)
	}
	for _, c := range []struct {
		lo, hi int
		want   []api.Range
		e      api.Errno
	}{{0, 2, list(0, 1, 3, 4), api.OK}, {1, 3, list(3, 5), api.OK}, {2, 2, nil, api.OK}, {2, 1, nil, api.ErrPlace}} {
		if got, e := r.Visible(c.lo, c.hi); !slices.Equal(got, c.want) || e != c.e {
			t.Errorf("Visible(%d, %d) = %v, %d", c.lo, c.hi, got, e)
		}
	}
	if got, e := r.Slice(1, 3); got != "lo" || e != api.OK {
		t.Errorf("Slice(1, 3) = %q, %d", got, e)
	}
}

func TestExample3(t *testing.T) {
	r, other := hello(t), hello(t)
	at, _ := r.TotalOf(1)
	if e := r.Insert(at, "é", 0); e != api.OK || at != 3 || r.Text() != "hélo" {
		t.Errorf("Insert(%d) = %d, %q", at, e, r.Text())
	}
	sameCells(t, r, row{{Rune: 'h'}, {Rune: 'e', Hid: 1}, {Rune: 'l', Hid: 1}, {Rune: 'é'}, {Rune: 'l'}, {Rune: 'o'}}, "Insert(3)")
	if e := other.Insert(1, "é", 0); e != api.OK || other.Text() != "hélo" {
		t.Errorf("Insert(1) = %d, %q", e, other.Text())
	}
	sameCells(t, other, row{{Rune: 'h'}, {Rune: 'é'}, {Rune: 'e', Hid: 1}, {Rune: 'l', Hid: 1}, {Rune: 'l'}, {Rune: 'o'}}, "Insert(1)")
}

func TestExample4(t *testing.T) {
	r := hello(t)
	r.Insert(3, "é", 0)
	before := r.Runs()
	for _, c := range []struct {
		a  []api.Range
		by int
		e  api.Errno
	}{{list(0, 2), -1, api.ErrBelow}, {list(1, 2, 2, 3), -1, api.ErrOrder}, {list(1, 3), 2, api.ErrPlace}, {list(1, 7), 1, api.ErrPlace}} {
		if e := r.Bump(c.a, c.by); e != c.e || !slices.Equal(r.Runs(), before) {
			t.Errorf("Bump(%v, %d) = %d, %v", c.a, c.by, e, r.Runs())
		}
	}
	if e := r.Bump(list(1, 3), -1); e != api.OK || r.Text() != "helélo" || !slices.Equal(r.Runs(), []api.Run{{Text: "helélo"}}) {
		t.Errorf("Bump([1,3), -1) = %d, %q, %v", e, r.Text(), r.Runs())
	}
}

func TestExample5(t *testing.T) {
	for _, r := range []*rope.Rope{rope.New(), hello(t)} {
		before := r.Runs()
		for _, c := range []struct {
			at   int
			text string
			hid  int
			e    api.Errno
		}{{-1, "\xff", -1, api.ErrPlace}, {0, "\xff", -1, api.ErrUtf8}, {0, "x", -1, api.ErrBelow}, {0, "", 0, api.OK}} {
			if e := r.Insert(c.at, c.text, c.hid); e != c.e || !slices.Equal(r.Runs(), before) {
				t.Errorf("Insert(%d, %q, %d) = %d, %v", c.at, c.text, c.hid, e, r.Runs())
			}
		}
	}
}

func TestExample6(t *testing.T) {
	for _, c := range []struct {
		runs []api.Run
		e    api.Errno
	}{
		{[]api.Run{{Text: "ab"}, {Text: "c"}}, api.ErrRuns},
		{[]api.Run{{Text: "ab"}, {Hid: 1}}, api.ErrRuns},
		{[]api.Run{{Text: "ab", Hid: -1}, {Hid: 1}}, api.ErrBelow},
	} {
		if r, e := rope.From(c.runs); r != nil || e != c.e {
			t.Errorf("From(%v) = %v, %d", c.runs, r, e)
		}
	}
	r := made(t, api.Run{Text: "ab", Hid: 2}, api.Run{Text: "c"})
	sameCells(t, r, row{{Rune: 'a', Hid: 2}, {Rune: 'b', Hid: 2}, {Rune: 'c'}}, "From")
	if r.Text() != "c" {
		t.Errorf("Text() = %q", r.Text())
	}
}

func TestExample7(t *testing.T) {
	for name, r := range map[string]*rope.Rope{"From": made(t, api.Run{Text: strings.Repeat("x", 40)}), "Insert": inserted(t, 40)} {
		h, k := r.Height(), r.Leaves()
		if k < 1 || k > 3 || k == 1 && (h < 1 || h > 2) || k > 1 && (h < 2 || h > 4) {
			t.Errorf("%s: Leaves() = %d, Height() = %d", name, k, h)
		}
	}
}

// inserted: n cells, put in one by one.
func inserted(t *testing.T, n int) *rope.Rope {
	t.Helper()
	r := rope.New()
	for i := range n {
		if e := r.Insert(i/2, "x", 0); e != api.OK {
			t.Fatalf("Insert: %d", e)
		}
	}
	return r
}
