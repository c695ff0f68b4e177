package desk_test

import (
	"slices"
	"testing"

	"redraft/api"
)

func stacked(t *testing.T, s *seat, what string, undo, redo []api.ID) {
	t.Helper()
	u, r := s.d.Stacks()
	if !slices.Equal(u, undo) || !slices.Equal(r, redo) {
		t.Errorf("%s: stacks %v, %v, want %v, %v", what, u, r, undo, redo)
	}
	s.is(what)
}

// three: user 1 has written a, b and c, all received.
func three(t *testing.T) *seat {
	t.Helper()
	s := sit(t, 1, room(2, 99, 99))
	for i, text := range []string{"a", "b", "c"} {
		s.insert(i, text)
		s.confirm(api.ID{1, i + 1})
	}
	return s
}

// Undo and Redo behind what others have turned.
func TestP8_10OthersTurn(t *testing.T) {
	s := three(t)
	s.take(status(2, 1, api.ID{1, 3}, false))
	shows(t, s.d, "another turns c off", "ab", 3, 2)
	o, _ := s.undo()
	made(t, "P8.10: Undo passes over what is off", o, status(1, 4, api.ID{1, 2}, false))
	stacked(t, s, "P8.10: Undo below the top", ids(1, 1, 3), ids(1, 2))
	s.confirm(o.ID)
	s.take(status(2, 2, api.ID{1, 2}, true))
	shows(t, s.d, "another turns b on", "ab", 1, 1)
	allRefused(t, s, redoCall(api.ErrStack))
	s.take(status(2, 3, api.ID{1, 3}, true))
	o, _ = s.undo()
	made(t, "P8.10: Undo of what another has turned on again", o, status(1, 5, api.ID{1, 3}, false))
	stacked(t, s, "P8.10: Undo", ids(1, 1), ids(1, 2, 3))
	s.confirm(o.ID)
	s.take(status(2, 4, api.ID{1, 2}, false))
	s.take(status(2, 5, api.ID{1, 3}, true))
	o, _ = s.redo()
	made(t, "P8.10: Redo passes over what is on", o, status(1, 6, api.ID{1, 2}, true))
	stacked(t, s, "P8.10: Redo below the top", ids(1, 1, 2), ids(1, 3))
	shows(t, s.d, "P8.10: Redo", "abc", 2, 2)
}

// A Status that another made ahead of the own one, and comes late: the own one, which is later, decides.
func TestP8_10Late(t *testing.T) {
	s := three(t)
	s.undo()
	s.take(status(2, 1, api.ID{1, 3}, true))
	shows(t, s.d, "the own Status is later", "ab", 2, 2)
	s.take(status(2, 2, api.ID{1, 3}, false))
	shows(t, s.d, "off twice", "ab", 2, 2)
	s.redo()
	shows(t, s.d, "P8.10: Redo", "abc", 3, 3)
	s.take(status(2, 3, api.ID{1, 3}, false))
	shows(t, s.d, "the own Redo is later", "abc", 3, 3)
	stacked(t, s, "P8.10", ids(1, 1, 2, 3), nil)
	s.confirm(api.ID{1, 4})
	s.confirm(api.ID{1, 5})
	s.take(status(2, 4, api.ID{1, 3}, false))
	shows(t, s.d, "another's is later now", "ab", 3, 2)
	s.is("P8.10: late")
}

// Turn of one's own edits: the stacks stay, and Undo and Redo pass over what they find turned.
func TestP8_11Own(t *testing.T) {
	s := three(t)
	o, _ := s.turn(api.ID{1, 3}, false)
	made(t, "P8.11: Turn", o, status(1, 4, api.ID{1, 3}, false))
	stacked(t, s, "P8.11: Turn", ids(1, 1, 2, 3), nil)
	allRefused(t, s, redoCall(api.ErrStack), turnCall(api.ID{1, 3}, false, api.ErrTurned))
	o, _ = s.undo()
	made(t, "P8.11: Undo behind Turn", o, status(1, 5, api.ID{1, 2}, false))
	s.turn(api.ID{1, 2}, true)
	stacked(t, s, "P8.11: Turn of what was undone", ids(1, 1, 3), ids(1, 2))
	allRefused(t, s, redoCall(api.ErrStack))
	s.turn(api.ID{1, 3}, true)
	o, _ = s.undo()
	made(t, "P8.11: Undo behind Turn and back", o, status(1, 8, api.ID{1, 3}, false))
	stacked(t, s, "P8.11", ids(1, 1), ids(1, 2, 3))
	shows(t, s.d, "P8.11", "ab", 2, 2)
}

// Turn of others' edits, of both kinds; the edit's author sees it when it is received.
func TestP8_11Others(t *testing.T) {
	s := three(t)
	s.take(ins(2, 1, 1, "XY"))
	s.take(hide(2, 2, 0, 1, 3, 5))
	shows(t, s.d, "another's edits", "XY", 5, 2)
	o, _ := s.turn(api.ID{2, 2}, false)
	made(t, "P8.11: Turn of another's delete", o, status(1, 4, api.ID{2, 2}, false))
	shows(t, s.d, "P8.11: Turn of another's delete off", "aXYbc", 5, 5)
	s.turn(api.ID{2, 1}, false)
	shows(t, s.d, "P8.11: Turn of another's insert off", "abc", 1, 1)
	s.turn(api.ID{2, 2}, true)
	shows(t, s.d, "P8.11: Turn of another's delete on", "", 0, 0)
	s.turn(api.ID{2, 1}, true)
	shows(t, s.d, "P8.11: Turn of another's insert on", "XY", 3, 2)
	stacked(t, s, "P8.11: another's", ids(1, 1, 2, 3), nil)
	if p := s.d.Pending(); len(p) != 4 || p[3].Target != (api.ID{2, 1}) || !p[3].On {
		t.Errorf("P8.11: pending %v", p)
	}
}

// k Undos and k Redos bring text and stacks back; an edit between forgets what could be redone.
func TestP8_10ThereAndBack(t *testing.T) {
	for k := 1; k <= 4; k++ {
		s := three(t)
		s.delete(0, 2)
		text, runs := s.d.Text(), s.d.Runs()
		for range k {
			s.undo()
			s.is("P8.10: Undo")
		}
		for range k {
			s.redo()
			s.is("P8.10: Redo")
		}
		if s.d.Text() != text || !slices.Equal(s.d.Runs(), runs) {
			t.Errorf("P8.10: %d Undos and Redos make %q of %q", k, s.d.Text(), text)
		}
		stacked(t, s, "P8.10: there and back", ids(1, 1, 2, 3, 4), nil)
		s.undo()
		o, _ := s.insert(0, "new")
		allRefused(t, s, redoCall(api.ErrStack))
		stacked(t, s, "P8.7: Insert behind Undo", append(ids(1, 1, 2, 3), o.ID), nil)
		s.undo()
		if o, _ := s.undo(); o.Target != (api.ID{1, 3}) { // 1.4 is forgotten, though it is off
			t.Errorf("P8.10: Undo = %v", o)
		}
	}
}
