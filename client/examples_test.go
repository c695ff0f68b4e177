package client_test

import (
	"testing"

	"redraft/api"
)

// The chapter's table, row by row.
func TestExamples(t *testing.T) {
	x := pairOf(t, 1, api.Limits{Clients: 2, Cells: 100, Ops: 100})
	x.waits(-1, 4)
	x.sends("H0")
	x.waits(-1, 0)
	x.makes(insert(0, "ab"), `1.1 ins 0 "ab"`)
	x.waits(-1, 0)
	x.makes(insert(2, "c"), `1.2 ins 2 "c"`)
	x.shows("abc", 0, `1.1 ins 0 "ab"`, `1.2 ins 2 "c"`)
	x.sends(`S0 1.1 ins 0 "ab"`)
	x.waits(0, 1)
	x.sends()
	x.sends()
	x.sends()
	x.waits(3, 4)
	x.sends(`S0 1.1 ins 0 "ab"`, "H0")
	x.waits(0, 0)
	x.ok(ack(2, 1))
	x.holds(2)
	x.is(ack(2, 1), 2, api.ErrDouble)
	x.ok(cast(1, `2.1 ins 0 "x"`))
	x.shows("xabc", 2, `1.2 ins 3 "c"`)
	x.waits(-1, 0)
	x.holds()
	x.is(ack(2, 1), 2, api.ErrOld)
	x.is(ack(3, 1), 3, api.ErrTurn)
	x.holds()
	x.sends(`S2 1.2 ins 3 "c"`)
	x.waits(0, 1)
	x.is(cast(3, `1.2 ins 2 "c"`), 3, api.ErrTurn)
	x.ok(cast(4, `2.1 ins 0 "y"`))
	x.holds(4)
	x.ok(cast(3, `1.2 ins 3 "c"`))
	x.shows("xabc", 3)
	x.holds()
	x.is(cast(68, `2.2 ins 0 "y"`), 68, api.ErrFar)
	x.is(castTo(2, 4, parse(`2.2 ins 0 "y"`)), 0, api.ErrClient)
	x.is(hello(1, 3), 0, api.ErrCode)
	x.is(cast(4, `2.2 ins 9 "y"`), 4, api.ErrTurn)
	x.shows("xabc", 3)
	x.holds()
	x.ok(cast(67, `2.2 ins 0 "y"`))
	x.holds(67)
}

// DOC.md's example 1, from each client's side: two people type at one place; the carets stay with what their owners typed.
func TestDocExample1(t *testing.T) {
	x := pairOf(t, 1, api.Limits{Clients: 2, Cells: 9, Ops: 9})
	x.do(insert(0, "ab"))
	x.sends(`S0 1.1 ins 0 "ab"`, "H0")
	x.ok(ack(1, 1))
	x.ok(cast(2, `2.1 ins 2 "xy"`))
	x.shows("abxy", 2)
	if x.c.Caret() != 2 {
		t.Errorf("DOC.md, example 1: the caret of 1 is %d", x.c.Caret())
	}
	y := pairOf(t, 2, api.Limits{Clients: 2, Cells: 9, Ops: 9})
	y.do(insert(0, "xy"))
	y.sends(`S0 2.1 ins 0 "xy"`, "H0")
	y.ok(castTo(2, 1, parse(`1.1 ins 0 "ab"`)))
	y.shows("abxy", 1, `2.1 ins 2 "xy"`)
	y.ok(ackTo(2, 2, 1))
	y.shows("abxy", 2)
	if y.c.Caret() != 4 {
		t.Errorf("DOC.md, example 1: the caret of 2 is %d", y.c.Caret())
	}

	// Examples 2 and 3: client 1 takes back what client 2 typed, who puts it back.
	x.makes(turn(api.ID{2, 1}, false), `1.2 off 2.1`)
	x.sends(`S2 1.2 off 2.1`)
	x.ok(ack(3, 2))
	y.ok(castTo(2, 3, parse(`1.2 off 2.1`)))
	x.shows("ab", 3)
	y.shows("ab", 3)
	y.makes(turn(api.ID{2, 1}, true), `2.2 on 2.1`)
	y.ok(ackTo(2, 4, 2))
	x.ok(cast(4, `2.2 on 2.1`))
	x.shows("abxy", 4)
	y.shows("abxy", 4)
	if x.c.Caret() != 2 || y.c.Caret() != 4 {
		t.Errorf("DOC.md, example 3: carets %d and %d", x.c.Caret(), y.c.Caret())
	}
}

// DOC.md's example 4, at client 2: an undo across what another has typed since.
func TestDocExample4(t *testing.T) {
	x := pairOf(t, 2, api.Limits{Clients: 2, Cells: 99, Ops: 99})
	x.ok(castTo(2, 1, parse(`1.1 ins 0 "abc"`)))
	x.makes(remove(1, 1), `2.1 hide 1-2`)
	x.sends(`S1 2.1 hide 1-2`)
	x.ok(castTo(2, 2, parse(`1.2 ins 2 "X"`)))
	x.shows("aXc", 2, `2.1 hide 1-2`)
	x.ok(ackTo(2, 3, 1))
	x.makes(undo(), `2.2 off 2.1`)
	x.shows("abXc", 3, `2.2 off 2.1`)
	x.sends(`S3 2.2 off 2.1`)
	x.ok(ackTo(2, 4, 2))
	x.shows("abXc", 4)
	if x.c.Caret() != 2 {
		t.Errorf("DOC.md, example 4: caret %d", x.c.Caret())
	}
}

// DOC.md's example 5: a server that has lost the command says nothing; it is sent again behind three ticks of waiting, and once it is told, no more.
func TestDocExample5(t *testing.T) {
	x := pairOf(t, 1, api.Limits{Clients: 1, Cells: 9, Ops: 9})
	x.do(insert(0, "a"))
	x.sends(`S0 1.1 ins 0 "a"`, "H0")
	x.sends()
	x.sends()
	x.sends()
	x.sends(`S0 1.1 ins 0 "a"`)
	x.ok(ack(1, 1))
	x.shows("a", 1)
	for range 4 {
		x.sends()
	}
	x.sends("H1")
}
