package desk_test

import (
	"testing"

	"redraft/api"
	"redraft/desk"
)

// The chapter's worked example, row by row.

func shows(t *testing.T, d *desk.Desk, what, text string, gap, caret int) {
	t.Helper()
	if d.Text() != text || d.Gap() != gap || d.Caret() != caret {
		t.Errorf("%s: %q, gap %d, caret %d, want %q, %d, %d", what, d.Text(), d.Gap(), d.Caret(), text, gap, caret)
	}
}

// did: a call that was accepted made this command.
func did(t *testing.T, what string, want api.Op) func(api.Op, error) {
	return func(got api.Op, err error) {
		t.Helper()
		if err != nil {
			t.Errorf("%s: %v", what, err)
		}
		made(t, what, got, want)
	}
}

// didNot: a call that was refused made none.
func didNot(t *testing.T, call string, at int, e api.Errno) func(api.Op, error) {
	return func(got api.Op, err error) {
		t.Helper()
		answers(t, err, call, at, e)
		made(t, call, got, api.Op{})
	}
}

func exampleDesk(t *testing.T) *desk.Desk {
	t.Helper()
	d, err := desk.New(1, room(2, 100, 100))
	if err != nil {
		t.Fatal(err)
	}
	did(t, "Insert(0, abc)", ins(1, 1, 0, "abc"))(d.Insert(0, "abc"))
	shows(t, d, "Insert(0, abc)", "abc", 3, 3)
	did(t, "Delete(1, 1)", hide(1, 2, 1, 2))(d.Delete(1, 1))
	shows(t, d, "Delete(1, 1)", "ac", 1, 1)
	did(t, "Insert(1, X)", ins(1, 3, 2, "X"))(d.Insert(1, "X"))
	shows(t, d, "Insert(1, X)", "aXc", 3, 2)
	return d
}

func TestExampleAlone(t *testing.T) {
	d := exampleDesk(t)
	didNot(t, "Insert", 4, api.ErrPlace)(d.Insert(4, "y"))
	didNot(t, "Insert", 4, api.ErrPlace)(d.Insert(4, "\xff"))
	didNot(t, "Insert", 1, api.ErrEmpty)(d.Insert(1, ""))
	shows(t, d, "refused calls", "aXc", 3, 2)
	did(t, "Undo", status(1, 4, api.ID{1, 3}, false))(d.Undo())
	shows(t, d, "Undo", "ac", 2, 1)
	did(t, "Undo", status(1, 5, api.ID{1, 2}, false))(d.Undo())
	shows(t, d, "Undo", "abc", 2, 2)
	did(t, "Redo", status(1, 6, api.ID{1, 2}, true))(d.Redo())
	shows(t, d, "Redo", "ac", 1, 1)
	didNot(t, "Turn", 0, api.ErrTurned)(d.Turn(api.ID{1, 2}, true))
	didNot(t, "Turn", 0, api.ErrTarget)(d.Turn(api.ID{1, 4}, false))
}

func TestExampleWithAnother(t *testing.T) {
	d := exampleDesk(t)
	d.Undo()
	d.Undo()
	d.Redo()
	answers(t, d.Take(ins(2, 1, 0, "Z")), "Take", 0, api.OK)
	shows(t, d, "Take(Z)", "Zac", 2, 2)
	if p := d.Pending(); d.Received() != 1 || len(p) != 6 {
		t.Fatalf("Take(Z): received %d, pending %v", d.Received(), p)
	} else {
		made(t, "Pending()[0]", p[0], ins(1, 1, 1, "abc"))
	}
	answersTwice(t, d.Take(hide(2, 2, 0, 2)), 1, api.ErrPlace)
	answers(t, d.Confirm(api.ID{1, 2}), "Confirm", 0, api.ErrUnknown)
	answers(t, d.Confirm(api.ID{1, 1}), "Confirm", 0, api.OK)
	if d.Received() != 2 || len(d.Pending()) != 5 {
		t.Errorf("Confirm: received %d, pending %v", d.Received(), d.Pending())
	}
	answers(t, d.Move(0), "Move", 0, api.OK)
	shows(t, d, "Move(0)", "Zac", 0, 0)
	answers(t, d.Take(ins(2, 2, 2, "Q")), "Take", 2, api.OK)
	shows(t, d, "Take(Q)", "ZaQc", 0, 0)
	did(t, "Undo", status(1, 7, api.ID{1, 2}, false))(d.Undo())
	shows(t, d, "Undo", "ZaQbc", 4, 4)
	did(t, "Undo", status(1, 8, api.ID{1, 1}, false))(d.Undo())
	shows(t, d, "Undo", "ZQ", 1, 1)
	didNot(t, "Undo", 0, api.ErrStack)(d.Undo())
}

// DOC.md's examples 1 to 4 and 8, as far as desks tell of them.

func TestWholeExamples1To3(t *testing.T) {
	a, b := sit(t, 1, room(2, 9, 9)), sit(t, 2, room(2, 9, 9))
	x, _ := a.insert(0, "ab")
	b.insert(0, "xy")
	b.take(x)
	a.confirm(x.ID)
	y := b.d.Pending()[0]
	a.take(y)
	b.confirm(y.ID)
	shows(t, a.d, "example 1", "abxy", 2, 2)
	shows(t, b.d, "example 1", "abxy", 4, 4)
	off, _ := a.turn(y.ID, false)
	made(t, "example 2", off, status(1, 2, y.ID, false))
	b.take(off)
	a.confirm(off.ID)
	shows(t, a.d, "example 2", "ab", 2, 2)
	shows(t, b.d, "example 2", "ab", 4, 2)
	on, _ := b.turn(y.ID, true)
	made(t, "example 3", on, status(2, 2, y.ID, true))
	a.take(on)
	b.confirm(on.ID)
	shows(t, a.d, "example 3", "abxy", 2, 2)
	shows(t, b.d, "example 3", "abxy", 4, 4)
	a.is("example 3")
	b.is("example 3")
}

func TestWholeExample4(t *testing.T) {
	a, b := sit(t, 1, room(2, 99, 99)), sit(t, 2, room(2, 99, 99))
	send := func(from, to *seat) {
		t.Helper()
		o := from.d.Pending()[0]
		from.confirm(o.ID)
		to.take(o)
	}
	a.insert(0, "abc")
	send(a, b)
	b.delete(1, 1)
	a.insert(2, "X")
	send(b, a)
	send(a, b)
	shows(t, a.d, "example 4", "aXc", 3, 2)
	b.undo()
	send(b, a)
	shows(t, a.d, "example 4", "abXc", 3, 3)
	shows(t, b.d, "example 4", "abXc", 2, 2)
}

func TestWholeExample8(t *testing.T) {
	s := sit(t, 1, room(1, 3, 2))
	for _, c := range []struct {
		e, want api.Errno
	}{
		{second(s.insert(0, "abcd")), api.ErrCells},
		{second(s.insert(0, "ab")), api.OK},
		{second(s.insert(3, "c")), api.ErrPlace},
		{second(s.insert(0, "cd")), api.ErrCells},
		{second(s.delete(0, 1)), api.OK},
		{second(s.undo()), api.ErrOps},
		{second(s.insert(0, "\xff")), api.ErrUtf8},
	} {
		if c.e != c.want {
			t.Errorf("example 8: %d, want %d", c.e, c.want)
		}
	}
	shows(t, s.d, "example 8", "b", 0, 0)
}

func second(_ api.Op, e api.Errno) api.Errno { return e }
