package desk_test

import (
	"testing"

	"redraft/api"
)

// thicket: a desk of user 1 whose row is t a u v b w, with only a and b visible: tombstones at both ends and between.
func thicket(t *testing.T) *seat {
	t.Helper()
	s := sit(t, 1, room(2, 99, 99))
	s.insert(0, "tauvbw")
	s.delete(5, 1)
	s.delete(2, 2)
	s.delete(0, 1)
	s.is("the thicket")
	shows(t, s.d, "the thicket", "ab", 0, 0)
	return s
}

func TestP8_9Move(t *testing.T) {
	s := thicket(t)
	for p, gap := range []int{0, 2, 5} {
		s.move(p)
		shows(t, s.d, "P8.9: Move", "ab", gap, p)
		s.is("P8.9: Move")
	}
	for p, gap := range []int{0, 2, 5} { // from everywhere
		s.move(2 - p)
		s.move(p)
		shows(t, s.d, "P8.9: Move", "ab", gap, p)
	}
	if s.d.Len() != 4 {
		t.Errorf("P8.9: Move has made a command: %d", s.d.Len())
	}
	e := sit(t, 1, room(1, 9, 9))
	e.move(0)
	shows(t, e.d, "P8.9: Move in an empty desk", "", 0, 0)
	e.insert(0, "abc")
	e.delete(0, 3)
	e.move(0)
	shows(t, e.d, "P8.9: Move among tombstones", "", 0, 0)
}

func TestP8_7Insert(t *testing.T) {
	for _, c := range []struct {
		p, at, gap int
		text       string
	}{{0, 1, 3, "NNab"}, {1, 4, 6, "aNNb"}, {2, 6, 8, "abNN"}} {
		for caret := range 3 { // where the caret stood ahead of it tells nothing
			s := thicket(t)
			s.move(caret)
			o, _ := s.insert(c.p, "NN")
			made(t, "P8.7: Insert among tombstones", o, ins(1, 5, c.at, "NN"))
			shows(t, s.d, "P8.7: Insert", c.text, c.gap, c.p+2)
			s.is("P8.7: Insert")
			u, r := s.d.Stacks()
			if len(u) != 5 || u[4] != (api.ID{1, 5}) || len(r) != 0 {
				t.Errorf("P8.7: stacks %v, %v", u, r)
			}
		}
	}
	s := sit(t, 1, room(1, 9, 9))
	s.insert(0, "a")
	s.delete(0, 1)
	o, _ := s.insert(0, "é€")
	made(t, "P8.7: Insert where nothing is visible", o, ins(1, 3, 1, "é€"))
	shows(t, s.d, "P8.7: Insert", "é€", 3, 2)
}

func TestP8_8Delete(t *testing.T) {
	for _, c := range []struct {
		p, n, gap int
		ranges    []api.Range
		text      string
	}{
		{0, 1, 0, list(1, 2), "b"},
		{1, 1, 2, list(4, 5), "a"},
		{0, 2, 0, list(1, 2, 4, 5), ""},
	} {
		for caret := range 3 {
			s := thicket(t)
			s.move(caret)
			o, _ := s.delete(c.p, c.n)
			want := hide(1, 5)
			want.Ranges = c.ranges
			made(t, "P8.8: Delete among tombstones", o, want)
			shows(t, s.d, "P8.8: Delete", c.text, c.gap, c.p)
			s.is("P8.8: Delete")
			u, r := s.d.Stacks()
			if len(u) != 5 || u[4] != (api.ID{1, 5}) || len(r) != 0 {
				t.Errorf("P8.8: stacks %v, %v", u, r)
			}
		}
	}
}

// Insert and Delete empty the redo stack; Move, Undo, Turn, Take and Confirm do not.
func TestRedoStack(t *testing.T) {
	begin := func() *seat {
		s := thicket(t)
		s.undo()
		s.undo()
		return s
	}
	for name, do := range map[string]func(*seat){
		"Insert":  func(s *seat) { s.insert(0, "x") },
		"Delete":  func(s *seat) { s.delete(0, 1) },
		"Move":    func(s *seat) { s.move(1) },
		"Undo":    func(s *seat) { s.undo() },
		"Turn":    func(s *seat) { s.turn(api.ID{1, 1}, false) },
		"Take":    func(s *seat) { s.take(ins(2, 1, 0, "x")) },
		"Confirm": func(s *seat) { s.confirm(api.ID{1, 1}) },
	} {
		s := begin()
		do(s)
		s.is(name)
		_, redo := s.d.Stacks()
		want := map[string]int{"Insert": 0, "Delete": 0, "Undo": 3}
		n, known := want[name]
		if !known {
			n = 2
		}
		if len(redo) != n {
			t.Errorf("%s: redo stack %v, want %d ids", name, redo, n)
		}
	}
}

// The caret behind what turns edits, with tombstones on both sides of it: first cells, last cells, and cells that stay hidden for another reason.
func TestP8_10Caret(t *testing.T) {
	s := thicket(t) // 1.2 hides w, 1.3 hides u v, 1.4 hides t
	s.undo()        // t comes back
	shows(t, s.d, "P8.10: Undo of a delete at the beginning", "tab", 1, 1)
	s.undo() // u v
	shows(t, s.d, "P8.10: Undo of a delete in the middle", "tauvb", 4, 4)
	s.undo() // w
	shows(t, s.d, "P8.10: Undo of a delete at the end", "tauvbw", 6, 6)
	s.redo()
	shows(t, s.d, "P8.10: Redo of a delete at the end", "tauvb", 5, 5)
	s.redo()
	shows(t, s.d, "P8.10: Redo of a delete in the middle", "tab", 2, 2)
	s.redo()
	shows(t, s.d, "P8.10: Redo of a delete at the beginning", "ab", 0, 0)
	s.move(2)
	s.turn(api.ID{1, 1}, false) // all go; t, u, v and w for a second reason
	shows(t, s.d, "P8.11: Turn of an insert off", "", 0, 0)
	s.turn(api.ID{1, 3}, false) // its counters go down, but nothing is seen
	shows(t, s.d, "P8.11: Turn of a delete off, below another reason", "", 4, 0)
	s.turn(api.ID{1, 1}, true) // its last cell stays hidden
	shows(t, s.d, "P8.11: Turn of an insert on", "auvb", 6, 4)
	s.is("P8.10, P8.11")
}

// An edit whose cells others have parted: the first one and the last one count.
func TestP8_10PartedCells(t *testing.T) {
	s := sit(t, 1, room(2, 99, 99))
	s.take(ins(2, 1, 0, "__"))
	s.insert(1, "abc")
	for _, id := range ids(1, 1) {
		s.confirm(id)
	}
	s.take(ins(2, 2, 2, "--")) // behind a
	s.take(ins(2, 3, 5, "++")) // behind b
	shows(t, s.d, "parted", "_a--b++c_", 8, 8)
	s.move(0)
	s.undo()
	shows(t, s.d, "P8.10: Undo of a parted insert", "_--++_", 1, 1)
	s.redo()
	shows(t, s.d, "P8.10: Redo of a parted insert", "_a--b++c_", 8, 8)
	s.delete(2, 6)
	shows(t, s.d, "P8.8: Delete of others' and own", "_a_", 2, 2)
	s.confirm(api.ID{1, 2})
	s.confirm(api.ID{1, 3})
	s.confirm(api.ID{1, 4})
	s.take(ins(2, 4, 5, "!")) // among what is hidden
	shows(t, s.d, "between hidden cells", "_a!_", 2, 2)
	s.undo()
	shows(t, s.d, "P8.10: Undo of a parted delete", "_a--b!++c_", 9, 9)
	s.redo()
	shows(t, s.d, "P8.10: Redo of a parted delete", "_a!_", 2, 2)
	s.is("P8.10: parted")
}
