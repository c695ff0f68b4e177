package desk_test

import (
	"math"
	"strings"
	"testing"

	"redraft/api"
	"redraft/desk"
)

// scene: a desk in the midst of its work, with the given limits of cells and of commands: five cells and four commands are made, two commands are received, three pending; cells x y z a b c Q d, of which b, c and Q are hidden; the caret stands ahead of Q.
func scene(t *testing.T, cells, ops int) *seat {
	t.Helper()
	s := sit(t, 1, room(3, cells, ops))
	s.insert(0, "abcd")
	s.take(ins(2, 1, 0, "xyz"))
	s.confirm(api.ID{1, 1})
	s.delete(4, 2)
	s.insert(4, "Q")
	s.undo()
	s.is("the scene")
	shows(t, s.d, "the scene", "xyzad", 6, 4)
	if s.d.Received() != 2 || len(s.d.Pending()) != 3 || t.Failed() {
		t.Fatalf("the scene: received %d, pending %v", s.d.Received(), s.d.Pending())
	}
	return s
}

// call: something that a user, or a server, does to a desk.
type call struct {
	name string
	at   int
	e    api.Errno
	do   func(*desk.Desk) (api.Op, error)
}

func insertCall(p int, text string, e api.Errno) call {
	return call{"Insert", p, e, func(d *desk.Desk) (api.Op, error) { return d.Insert(p, text) }}
}

func deleteCall(p, n int, e api.Errno) call {
	return call{"Delete", p, e, func(d *desk.Desk) (api.Op, error) { return d.Delete(p, n) }}
}

func moveCall(p int, e api.Errno) call {
	return call{"Move", p, e, func(d *desk.Desk) (api.Op, error) { return api.Op{}, d.Move(p) }}
}

func undoCall(e api.Errno) call { return call{"Undo", 0, e, (*desk.Desk).Undo} }

func redoCall(e api.Errno) call { return call{"Redo", 0, e, (*desk.Desk).Redo} }

func turnCall(id api.ID, on bool, e api.Errno) call {
	return call{"Turn", 0, e, func(d *desk.Desk) (api.Op, error) { return d.Turn(id, on) }}
}

// takeCall: its error is wrapped once; received is the R that its At must be.
func takeCall(received int, o api.Op, e api.Errno) call {
	return call{"Take", received, e, func(d *desk.Desk) (api.Op, error) { return api.Op{}, d.Take(o) }}
}

func confirmCall(id api.ID, e api.Errno) call {
	return call{"Confirm", 0, e, func(d *desk.Desk) (api.Op, error) { return api.Op{}, d.Confirm(id) }}
}

// allRefused: each call is refused as it says, answers nothing else, and changes nothing.
func allRefused(t *testing.T, s *seat, calls ...call) {
	t.Helper()
	was := told(s.d)
	for i, c := range calls {
		got, err := c.do(s.d)
		answers(t, err, c.name, c.at, c.e)
		made(t, "P8.5: "+c.name+", refused", got, api.Op{})
		if now := told(s.d); now != was {
			t.Fatalf("P8.5: %s (number %d), refused, has changed %s to %s", c.name, i, was, now)
		}
	}
	s.is("refused calls")
}

// allRefusedByPut is allRefused for what Put has against a command that is taken.
func allRefusedByPut(t *testing.T, s *seat, e api.Errno, ops ...api.Op) {
	t.Helper()
	was := told(s.d)
	for _, o := range ops {
		answersTwice(t, s.d.Take(o), s.d.Received(), e)
		if now := told(s.d); now != was {
			t.Fatalf("P8.5: Take(%v), refused, has changed %s to %s", o, was, now)
		}
	}
	s.is("refused Takes")
}

// goesOn: the next command has this number; so nothing that was refused has taken one.
func goesOn(t *testing.T, s *seat, number int) {
	t.Helper()
	if o, e := s.insert(s.d.Shown(), "."); e != api.OK || o.ID != (api.ID{1, number}) {
		t.Errorf("P8.5: the next command is %v, %d, want number %d", o, int(e), number)
	}
	s.is("the next command")
}

var far = []int{math.MinInt, math.MinInt + 1, -1, 6, 7, 1 << 20, 1<<31 - 1, math.MaxInt - 1, math.MaxInt}

func TestP8_7Errors(t *testing.T) {
	s := scene(t, 12, 9)
	long := strings.Repeat("é", 257)
	for _, p := range far {
		allRefused(t, s, insertCall(p, "y", api.ErrPlace), insertCall(p, "\xff", api.ErrPlace), insertCall(p, "", api.ErrPlace), insertCall(p, long, api.ErrPlace), insertCall(p, "12345678", api.ErrPlace))
	}
	for p := range 6 {
		allRefused(t, s,
			insertCall(p, "\xff", api.ErrUtf8), insertCall(p, "ok\xc3", api.ErrUtf8), insertCall(p, "a\x00\xff", api.ErrRune), insertCall(p, "a\xff\x00", api.ErrUtf8), insertCall(p, "\r", api.ErrRune),
			insertCall(p, long+"\xff", api.ErrUtf8), insertCall(p, long+"\x7f", api.ErrRune), insertCall(p, "12345678\xff", api.ErrUtf8),
			insertCall(p, "", api.ErrEmpty), insertCall(p, long, api.ErrLong), insertCall(p, long+long, api.ErrLong), insertCall(p, "12345678", api.ErrCells), insertCall(p, strings.Repeat("é", 256), api.ErrCells))
	}
	goesOn(t, s, 5)
}

func TestP8_7ErrorsWithoutOps(t *testing.T) {
	s := scene(t, 5, 4)
	long := strings.Repeat("x", 257)
	allRefused(t, s, insertCall(6, "y", api.ErrPlace), insertCall(0, "\xff", api.ErrUtf8), insertCall(0, "\x00", api.ErrRune), insertCall(0, "", api.ErrEmpty), insertCall(0, long, api.ErrLong),
		insertCall(0, "y", api.ErrOps), insertCall(5, strings.Repeat("x", 256), api.ErrOps))
	s = scene(t, 5, 5)
	allRefused(t, s, insertCall(0, "y", api.ErrCells), insertCall(0, long, api.ErrLong))
	s = scene(t, 6, 4)
	allRefused(t, s, insertCall(0, "y", api.ErrOps))
	s = scene(t, 6, 5)
	goesOn(t, s, 5)
	allRefused(t, s, insertCall(0, "y", api.ErrOps))
}

func TestP8_8Errors(t *testing.T) {
	s := scene(t, 12, 9)
	for _, p := range far {
		for _, n := range append([]int{0, 1, 2, 5}, far...) {
			allRefused(t, s, deleteCall(p, n, api.ErrPlace))
		}
	}
	for p := range 6 {
		for _, n := range []int{math.MinInt, -1, 6 - p, 7 - p, 6, 1 << 31, math.MaxInt - p, math.MaxInt - 1, math.MaxInt} {
			allRefused(t, s, deleteCall(p, n, api.ErrPlace))
		}
		allRefused(t, s, deleteCall(p, 0, api.ErrEmpty))
	}
	goesOn(t, s, 5)
	s = scene(t, 12, 4)
	allRefused(t, s, deleteCall(6, 0, api.ErrPlace), deleteCall(0, 6, api.ErrPlace), deleteCall(1, math.MaxInt, api.ErrPlace), deleteCall(5, 0, api.ErrEmpty), deleteCall(0, 1, api.ErrOps), deleteCall(0, 5, api.ErrOps))
}

func TestP8_9Errors(t *testing.T) {
	s := scene(t, 12, 9)
	for _, p := range far {
		allRefused(t, s, moveCall(p, api.ErrPlace))
	}
	goesOn(t, s, 5)
	s = scene(t, 5, 4) // a user without commands may still walk about
	for p := range 6 {
		if e := s.move(p); e != api.OK {
			t.Errorf("P8.9: Move(%d) = %d", p, e)
		}
		s.is("P8.9: Move of a user without commands")
	}
}

func TestP8_10Errors(t *testing.T) {
	s := sit(t, 2, room(2, 9, 9))
	allRefused(t, s, undoCall(api.ErrStack), redoCall(api.ErrStack))
	s.take(ins(1, 1, 0, "others"))
	allRefused(t, s, undoCall(api.ErrStack), redoCall(api.ErrStack))
	s.insert(0, "own")
	allRefused(t, s, redoCall(api.ErrStack))
	s.undo()
	allRefused(t, s, undoCall(api.ErrStack))
	s.insert(0, "more")
	allRefused(t, s, redoCall(api.ErrStack)) // what was undone is forgotten with it
	s.is("P8.10")
	// With both errors at once the first one is told.
	s = scene(t, 12, 4)
	allRefused(t, s, undoCall(api.ErrOps), redoCall(api.ErrOps))
	s = sit(t, 1, room(1, 1, 1))
	s.insert(0, "a")
	allRefused(t, s, undoCall(api.ErrOps), redoCall(api.ErrOps), turnCall(api.ID{1, 1}, false, api.ErrOps))
}

func TestP8_11Errors(t *testing.T) {
	s := scene(t, 12, 9)
	for _, on := range []bool{false, true} {
		for _, id := range []api.ID{{}, {1, 5}, {2, 2}, {3, 1}, {9, 1}, {-1, -1}, {math.MaxInt, math.MinInt}} {
			allRefused(t, s, turnCall(id, on, api.ErrUnknown))
		}
		allRefused(t, s, turnCall(api.ID{1, 4}, on, api.ErrTarget)) // as it stands already, and the other way
	}
	allRefused(t, s, turnCall(api.ID{1, 1}, true, api.ErrTurned), turnCall(api.ID{1, 2}, true, api.ErrTurned), turnCall(api.ID{1, 3}, false, api.ErrTurned), turnCall(api.ID{2, 1}, true, api.ErrTurned))
	goesOn(t, s, 5)
	s = scene(t, 12, 4)
	allRefused(t, s, turnCall(api.ID{1, 1}, false, api.ErrOps), turnCall(api.ID{1, 1}, true, api.ErrOps), turnCall(api.ID{1, 4}, false, api.ErrOps), turnCall(api.ID{7, 7}, true, api.ErrOps))
}

func TestP8_12Errors(t *testing.T) {
	s := scene(t, 12, 9)
	for _, client := range []int{1, 0, -1, 4, 8, 9, math.MinInt, math.MaxInt} {
		allRefused(t, s, takeCall(2, ins(client, 2, 0, "q"), api.ErrUser), takeCall(2, ins(client, 10, 0, "q"), api.ErrUser), takeCall(2, ins(client, 1, 0, "0123456789abc"), api.ErrUser), takeCall(2, api.Op{Head: api.Head{ID: api.ID{client, -1}}}, api.ErrUser))
	}
	for _, number := range []int{10, 11, 1024, 1025, math.MaxInt} {
		allRefused(t, s, takeCall(2, ins(2, number, 0, "q"), api.ErrOps), takeCall(2, ins(2, number, 0, "0123456789"), api.ErrOps), takeCall(2, api.Op{Head: api.Head{ID: api.ID{3, number}}}, api.ErrOps))
	}
	// Client 2 has three of its twelve cells; a text that is too long, or stands nowhere, has too many cells first.
	tooMany := ins(2, 1, 99, "0123456789")
	tooMany.On = true
	allRefused(t, s, takeCall(2, ins(2, 2, 0, "0123456789"), api.ErrCells), takeCall(2, ins(3, 1, 0, "0123456789abc"), api.ErrCells), takeCall(2, ins(2, 2, 0, strings.Repeat("x", 257)), api.ErrCells), takeCall(2, tooMany, api.ErrCells), takeCall(2, ins(2, 0, -1, "0123456789"), api.ErrCells))
	goesOn(t, s, 5)
}

func TestP8_12PutErrors(t *testing.T) {
	s := scene(t, 4096, 1024)
	extra, none := hide(2, 2, 0, 1), hide(2, 2, 0, 1)
	extra.At, none.Ranges = 1, nil
	many := hide(2, 2)
	for q := range api.MaxRanges + 1 {
		many.Ranges = append(many.Ranges, api.Range{Lo: 2 * q, Hi: 2*q + 1})
	}
	for _, c := range []struct {
		e   api.Errno
		ops []api.Op
	}{
		{api.ErrKind, []api.Op{{Head: api.Head{ID: api.ID{2, 2}}}, {Head: api.Head{ID: api.ID{2, 2}, Kind: 5}}, {Head: api.Head{ID: api.ID{2, 2}, Kind: api.Show}, Ranges: list(0, 1)}}},
		{api.ErrID, []api.Op{ins(2, 0, 0, "q"), ins(2, -1, 0, "q"), ins(3, math.MinInt, 99, "")}},
		{api.ErrExtra, []api.Op{extra}},
		{api.ErrUtf8, []api.Op{ins(2, 2, 0, "\xff"), ins(2, 2, 99, strings.Repeat("x", 5000)+"\xff")}}, // what is no text has no cells
		{api.ErrRune, []api.Op{ins(2, 2, 0, "\x00")}},
		{api.ErrEmpty, []api.Op{ins(2, 2, 0, ""), ins(2, 2, 99, "")}},
		{api.ErrLong, []api.Op{ins(2, 2, 0, strings.Repeat("x", 257))}},
		{api.ErrPlace, []api.Op{ins(2, 2, 8, "q"), ins(2, 2, -1, "q"), ins(2, 2, math.MaxInt, "q"), hide(2, 2, 0, 8), hide(2, 1, 7, 8)}}, // seven cells are received, the eighth is pending
		{api.ErrNone, []api.Op{none}},
		{api.ErrMany, []api.Op{many}},
		{api.ErrRange, []api.Op{hide(2, 2, 1, 1), hide(2, 2, 3, 2)}},
		{api.ErrOrder, []api.Op{hide(2, 2, 0, 1, 1, 2), hide(2, 2, 3, 4, 0, 1)}},
		{api.ErrTwice, []api.Op{ins(2, 1, 0, "q"), hide(2, 1, 0, 1), status(2, 1, api.ID{7, 7}, true)}},
		{api.ErrUnknown, []api.Op{status(2, 2, api.ID{1, 2}, false), status(2, 2, api.ID{1, 4}, false), status(2, 2, api.ID{3, 1}, true)}}, // 1.2 and 1.4 are pending
		{api.ErrTarget, []api.Op{status(2, 2, api.ID{2, 2}, false), status(2, 2, api.ID{}, false)}},
	} {
		allRefusedByPut(t, s, c.e, c.ops...)
	}
	s.confirm(api.ID{1, 2})
	s.confirm(api.ID{1, 3})
	s.confirm(api.ID{1, 4})
	allRefusedByPut(t, s, api.ErrTarget, status(2, 2, api.ID{1, 4}, false))
	if e := s.take(status(2, 2, api.ID{1, 2}, false)); e != api.OK {
		t.Errorf("P8.12: Take of a Status on what is received = %d", e)
	}
	goesOn(t, s, 5)
}

func TestP8_13Errors(t *testing.T) {
	s := sit(t, 1, room(3, 12, 9))
	for _, id := range []api.ID{{}, {1, 1}, {2, 1}} {
		allRefused(t, s, confirmCall(id, api.ErrEmpty))
	}
	s.take(ins(2, 1, 0, "x"))
	allRefused(t, s, confirmCall(api.ID{2, 1}, api.ErrEmpty), confirmCall(api.ID{1, 1}, api.ErrEmpty))
	s = scene(t, 12, 9)
	for _, id := range []api.ID{{}, {1, 1}, {1, 3}, {1, 4}, {1, 5}, {2, 1}, {2, 2}, {-1, math.MaxInt}} {
		allRefused(t, s, confirmCall(id, api.ErrUnknown))
	}
	for n := 2; n <= 4; n++ {
		was := told(s.d)
		if e := s.confirm(api.ID{1, n}); e != api.OK {
			t.Errorf("P8.13: Confirm of number %d = %d", n, e)
		}
		if s.d.Received() != n+1 || told(s.d) == was {
			t.Errorf("P8.13: received %d", s.d.Received())
		}
		s.is("P8.13: Confirm")
		if n < 4 {
			allRefused(t, s, confirmCall(api.ID{1, n}, api.ErrUnknown))
		}
	}
	allRefused(t, s, confirmCall(api.ID{1, 4}, api.ErrEmpty), confirmCall(api.ID{1, 5}, api.ErrEmpty))
	goesOn(t, s, 5)
}
