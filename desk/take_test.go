package desk_test

import (
	"fmt"
	"slices"
	"testing"

	"redraft/api"
	"redraft/op"
)

// P8.12: inserts at every place, with the caret at every place, with nothing pending, or with a command of each kind pending.
func TestP8_12CaretEverywhere(t *testing.T) {
	for name, do := range map[string]func(*seat){
		"nothing":    func(*seat) {},
		"an insert":  func(s *seat) { s.insert(1, "pq") },
		"a delete":   func(s *seat) { s.delete(1, 1) },
		"an undo":    func(s *seat) { s.undo() },
		"all kinds":  func(s *seat) { s.insert(3, "pq"); s.delete(0, 2); s.insert(0, "r"); s.undo() },
		"turns only": func(s *seat) { s.turn(api.ID{1, 1}, false); s.turn(api.ID{1, 1}, true) },
	} {
		for at := range 5 {
			for p := range 6 {
				s := sit(t, 2, room(2, 99, 99))
				s.take(ins(1, 1, 0, "ab"))
				s.insert(1, "cd")
				s.confirm(api.ID{2, 1})
				do(s)
				if p <= s.d.Shown() {
					s.move(p)
				}
				if e := s.take(ins(1, 2, at, "NEW")); e != api.OK {
					t.Fatalf("P8.12: Take = %d", e)
				}
				s.is(fmt.Sprintf("P8.12: Take at %d, caret at %d, with %s pending", at, p, name))
			}
		}
	}
}

// The same with numbers: ahead of the caret, at it, behind it.
func TestP8_12Caret(t *testing.T) {
	for _, c := range []struct {
		at, gap, caret int
		text           string
	}{{0, 4, 4, "--abcd"}, {1, 4, 4, "a--bcd"}, {2, 2, 2, "ab--cd"}, {3, 2, 2, "abc--d"}, {4, 2, 2, "abcd--"}} {
		s := sit(t, 1, room(2, 99, 99))
		s.take(ins(2, 1, 0, "abcd"))
		s.move(2)
		s.take(ins(2, 2, c.at, "--"))
		shows(t, s.d, "P8.12: Take", c.text, c.gap, c.caret)
	}
	// Another's insert where the user is writing: it is earlier, so it stands ahead of what the user has pending there.
	s := sit(t, 1, room(2, 99, 99))
	s.insert(0, "mine")
	s.take(ins(2, 1, 0, "its"))
	shows(t, s.d, "P8.12: Take where the user writes", "itsmine", 7, 7)
	s.move(3)
	s.take(ins(2, 2, 3, "!"))
	shows(t, s.d, "P8.12: Take at the caret", "its!mine", 3, 3)
	s.move(4)
	s.take(ins(2, 3, 4, "?"))
	shows(t, s.d, "P8.12: Take at the caret", "its!?mine", 4, 4)
}

// Hides and Status commands of others never move the caret; what is told of it counts what is visible.
func TestP8_12NoInsert(t *testing.T) {
	s := sit(t, 1, room(2, 99, 99))
	s.take(ins(2, 1, 0, "abcd"))
	s.insert(4, "ef")
	s.move(3)
	s.take(hide(2, 2, 0, 2))
	shows(t, s.d, "P8.12: Take of a Hide", "cdef", 3, 1)
	s.take(status(2, 3, api.ID{2, 2}, false))
	shows(t, s.d, "P8.12: Take of a Status that shows", "abcdef", 3, 3)
	s.take(status(2, 4, api.ID{2, 1}, false))
	shows(t, s.d, "P8.12: Take of a Status that hides", "ef", 3, 0)
	s.take(status(2, 5, api.ID{2, 1}, false))
	shows(t, s.d, "P8.12: Take of a Status without an effect", "ef", 3, 0)
	s.take(status(2, 6, api.ID{2, 1}, true))
	shows(t, s.d, "P8.12: Take of a Status that shows", "abcdef", 3, 3)
	stacked(t, s, "P8.12: the stacks stay", ids(1, 1), nil)
	if s.d.Received() != 6 || s.d.Len() != 7 {
		t.Errorf("P8.12: received %d of %d", s.d.Received(), s.d.Len())
	}
}

// What is pending is carried; what comes is carried over it.
func TestP8_12Pending(t *testing.T) {
	s := sit(t, 1, room(3, 99, 99))
	s.take(ins(2, 1, 0, "abcd"))
	s.insert(2, "XY") // a b X Y c d
	s.delete(1, 4)    // b X Y c
	s.undo()
	s.take(hide(2, 2, 1, 3)) // b c
	s.take(ins(3, 1, 2, "!"))
	s.take(ins(2, 3, 0, ">"))
	shows(t, s.d, "P8.12: Takes with commands pending", ">a!XYd", 7, 5)
	want := []api.Op{ins(1, 1, 4, "XY"), hide(1, 2, 2, 3, 4, 7), status(1, 3, api.ID{1, 2}, false)}
	if got := s.d.Pending(); !slices.EqualFunc(got, want, op.Equal) {
		t.Errorf("P8.14: pending %v, want %v", got, want)
	}
	if got, err := s.d.Ops(4, 7); err != nil || !slices.EqualFunc(got, want, op.Equal) {
		t.Errorf("P8.14: Ops(R, Len) = %v, %v", got, err)
	}
	s.is("P8.12: pending")
}

// P8.13: Confirm changes R and nothing else; what is confirmed is not pending any more, and what is taken then goes behind it.
func TestP8_13Confirm(t *testing.T) {
	s := sit(t, 1, room(2, 99, 99))
	s.insert(0, "ab")
	s.delete(0, 1)
	s.undo()
	s.redo()
	s.move(1)
	run, _ := s.d.Ops(0, 4)
	was := toldView(&s.d.Replica)
	u, r := s.d.Stacks()
	gap, caret := s.d.Gap(), s.d.Caret()
	for n := 1; n <= 4; n++ {
		if e := s.confirm(api.ID{1, n}); e != api.OK {
			t.Errorf("P8.13: Confirm of number %d = %d", n, e)
		}
		u2, r2 := s.d.Stacks()
		if toldView(&s.d.Replica) != was || s.d.Gap() != gap || s.d.Caret() != caret || !slices.Equal(u, u2) || !slices.Equal(r, r2) {
			t.Errorf("P8.13: Confirm has changed more than R")
		}
		if s.d.Received() != n || !slices.EqualFunc(s.d.Pending(), run[n:], op.Equal) {
			t.Errorf("P8.13: received %d, pending %v", s.d.Received(), s.d.Pending())
		}
	}
	s.take(ins(2, 1, 2, "c"))
	if n, err := s.d.Find(api.ID{2, 1}); n != 4 || err != nil {
		t.Errorf("P8.12: what is taken has the number %d, %v", n, err)
	}
	if o, _ := s.insert(0, "d"); o.ID != (api.ID{1, 5}) {
		t.Errorf("the next command is %v", o)
	}
	s.is("P8.13")
}
