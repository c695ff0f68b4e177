package disk_test

import (
	"math"
	"testing"

	"redraft/api"
)

// state: a disk that has all chances of an error at once, or some of them.
type state struct {
	down, armed, full bool
}

// lay: a disk in that state, with a file "there" of 3 bytes, 2 of them durable.
func (s state) lay(t *testing.T) *pair {
	limit := 50
	if s.full {
		limit = 3
	}
	x := newPair(t, limit)
	x.all(put("there", "ab"), sync("there"), put("there", "c"))
	if s.down {
		x.do(crash(1))
		return x
	}
	if s.armed {
		x.do(arm(1, 0))
	}
	return x
}

// Each error with each that comes behind it at once: the first of ErrDown, ErrName, ErrFile, ErrPlace, the crash, ErrFull is answered.
func TestP11_1Order(t *testing.T) {
	for _, s := range []state{{}, {full: true}, {armed: true}, {armed: true, full: true}, {down: true}, {down: true, full: true}} {
		for _, name := range []string{"No Name", "none", "there"} {
			for _, n := range []int{-1, 99, 1, math.MaxInt, math.MinInt} {
				for _, c := range []call{put(name, "wxyz"), sync(name), cut(name, n), remove(name), read(name, n, 1), read(name, 1, n), read(name, n, n), size(name), turn(name, n, 7)} {
					holdOrder(t, s, c, n)
				}
			}
		}
	}
}

// holdOrder: the first error of P11.1's list; what is no crash and no ErrFull has changed nothing.
func holdOrder(t *testing.T, s state, c call, n int) {
	t.Helper()
	x := s.lay(t)
	ahead := show(x.d.Files())
	got := x.do(c)
	changes := c.kind == "Append" || c.kind == "Sync" || c.kind == "Cut" || c.kind == "Remove"
	placed := c.kind == "Cut" || c.kind == "Read" || c.kind == "Turn"
	want := api.OK
	switch {
	case s.down:
		want = api.ErrDown
	case c.name == "No Name":
		want = api.ErrName
	case c.name == "none" && c.kind != "Append":
		want = api.ErrFile
	case placed && n != 1:
		want = api.ErrPlace
	case changes && s.armed:
		want = api.ErrDown
	case c.kind == "Append" && s.full:
		want = api.ErrFull
	}
	if got.e != want {
		t.Fatalf("P11.1: %+v: %v = %v, want error %d", s, c, got, want)
	}
	if want != api.OK && got != (answer{e: want}) {
		t.Fatalf("P11.1: %+v: %v = %v: an error, and another answer beside it", s, c, got)
	}
	crashed := want == api.ErrDown && !s.down
	if want != api.OK && want != api.ErrFull && !crashed && (show(x.d.Files()) != ahead || x.d.Down() != s.down) {
		t.Fatalf("P11.1: %+v: %v = %v has changed the disk: %s, was %s", s, c, got, show(x.d.Files()), ahead)
	}
	if !s.down && !crashed && s.armed {
		if e := x.do(sync("there")).e; e != api.ErrDown && c.kind != "Remove" {
			t.Fatalf("P11.1: %v, refused, was counted", c)
		}
	}
}

// Arm, Crash and Up in each state; a disk that is down refuses all but Up and what is told of it.
func TestP11_1OrderOfArmAndCrash(t *testing.T) {
	for _, s := range []state{{}, {armed: true}, {down: true}} {
		for _, c := range []call{arm(0, 0), arm(0, -1), arm(0, math.MinInt), arm(-1, 0), arm(-1, -1), arm(1, -1), arm(math.MinInt, math.MinInt), arm(math.MaxInt, math.MaxInt), crash(-1), crash(math.MinInt), crash(0), crash(math.MaxInt), up()} {
			x := s.lay(t)
			got := x.do(c)
			refused := c.kind == "Arm" && c.a != 0 && (c.a < 0 || c.b < 0) || c.kind == "Crash" && c.a < 0
			want := api.OK
			switch {
			case s.down && c.kind != "Up":
				want = api.ErrDown
			case refused:
				want = api.ErrPlace
			}
			if got != (answer{e: want}) {
				t.Fatalf("P11.1: %+v: %v = %v, want %d", s, c, got, want)
			}
			x.all(sync("there"), sync("there"), up(), sync("there"))
		}
	}
}

// A disk of no room at all, and one that is full to its last byte.
func TestP11_1Full(t *testing.T) {
	x := newPair(t, 0)
	x.all(put("a", ""), put("b", "x"), put("b", "xyz"), sync("b"), cut("b", 0), size("b"), arm(1, 9), put("c", "x"))
	y := newPair(t, 4)
	y.all(put("a", "abcd"), put("a", "e"), put("b", "f"), put("b", ""), sync("a"), arm(2, 9), put("b", "g"), put("a", "h"))
	if got := show(y.d.Files()); got != `a:"abcd"/4` || !y.d.Down() {
		t.Fatalf("P11.10: files %s, down %v: an Append without room is counted, and crashes too", got, y.d.Down())
	}
}
