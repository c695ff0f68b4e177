package client_test

import (
	"fmt"
	"slices"
	"testing"

	"redraft/api"
)

// Acks with the first pending command's number, with others, with nothing pending.
func TestP15_5Ack(t *testing.T) {
	x := pairAt(t)
	for _, seq := range []int{1, 2, 1024} {
		x.is(ack(1, seq), 1, api.ErrTurn)
	}
	x.all(insert(0, "a"), remove(0, 1), undo())
	for seq := 1; seq <= 3; seq++ {
		for _, other := range []int{1, 2, 3, 4, 5, 1024} {
			if other != seq {
				x.is(ack(seq, other), seq, api.ErrTurn)
			}
		}
		x.ok(ack(seq, seq)) // never sent: an ack of its number is one all the same
		x.waits(-1, 0)
	}
	x.shows("a", 3)
	for _, seq := range []int{1, 2, 3, 4} {
		x.is(ack(4, seq), 4, api.ErrTurn)
	}
}

// An Ack tells a number, not a place: it fits behind whatever has come ahead of the command since it was sent.
func TestP15_5AckCarried(t *testing.T) {
	x := pairAt(t, insert(0, "ab"), tick(), handle(cast(1, `2.1 ins 0 "xyz"`)))
	x.shows("xyzab", 1, `1.1 ins 3 "ab"`)
	x.ok(ack(2, 1))
	x.shows("xyzab", 2)
}

// ownCommands: client 1 behind "wxyz" of client 2, and one pending command of each kind, by its line.
func ownCommands(t *testing.T) map[string]*pair {
	t.Helper()
	begin := []step{handle(cast(1, `2.1 ins 0 "wxyz"`)), insert(0, "ab"), handle(ack(2, 1))}
	return map[string]*pair{
		`1.2 ins 3 "cd"`:   pairAt(t, append(slices.Clone(begin), insert(3, "cd"))...),
		`1.2 hide 1-2,3-4`: pairAt(t, append(slices.Clone(begin), handle(cast(3, `2.2 hide 2-3`)), remove(1, 2))...),
		`1.2 off 2.1`:      pairAt(t, append(slices.Clone(begin), turn(api.ID{2, 1}, false))...),
		`1.2 on 2.1`:       pairAt(t, append(slices.Clone(begin), handle(cast(3, `2.2 off 2.1`)), turn(api.ID{2, 1}, true))...),
	}
}

// A Cast of the user's own command fits word for word, and no other.
func TestP15_5OwnCast(t *testing.T) {
	others := []string{
		`1.2 ins 3 "cd"`, `1.2 ins 2 "cd"`, `1.2 ins 4 "cd"`, `1.2 ins 3 "ce"`, `1.2 ins 3 "c"`, `1.2 ins 3 "cde"`, `1.3 ins 3 "cd"`, `1.1 ins 3 "cd"`, `1.1 ins 0 "ab"`,
		`1.2 hide 1-2,3-4`, `1.2 hide 1-2`, `1.2 hide 1-2,3-4,5-6`, `1.2 hide 1-4`, `1.2 hide 0-2,3-4`, `1.2 hide 1-2,3-5`, `1.3 hide 1-2,3-4`,
		`1.2 off 2.1`, `1.2 on 2.1`, `1.2 off 1.1`, `1.2 on 1.1`, `1.3 off 2.1`, `1.3 on 2.1`,
	}
	for own, x := range ownCommands(t) {
		r := x.c.Received()
		text := x.c.Text()
		x.shows(text, r, own)
		for _, other := range others {
			if other != own {
				x.is(cast(r+1, other), r+1, api.ErrTurn)
			}
		}
		x.do(tick())
		x.ok(cast(r+1, own))
		x.shows(text, r+1)
		x.waits(-1, 0)
		x.is(cast(r+2, own), r+2, api.ErrTurn) // nothing is pending
	}
}

// A Cast of the user's own command as it stands behind what has come by its turn, not as it was sent.
func TestP15_5OwnCastCarried(t *testing.T) {
	x := pairAt(t, insert(0, "m"), tick(), handle(cast(1, `2.1 ins 0 "left"`)))
	x.is(cast(2, `1.1 ins 0 "m"`), 2, api.ErrTurn)
	x.ok(cast(2, `1.1 ins 4 "m"`))
	x.shows("leftm", 2)

	// Both held, and the first comes last: what fits is asked at the turn.
	x = pairAt(t, insert(0, "m"), tick(), handle(cast(2, `1.1 ins 4 "m"`)), handle(cast(1, `2.1 ins 0 "left"`)))
	x.shows("leftm", 2)
	x = pairAt(t, insert(0, "m"), tick(), handle(cast(2, `1.1 ins 0 "m"`)), handle(cast(1, `2.1 ins 0 "left"`)))
	x.shows("leftm", 1, `1.1 ins 4 "m"`)
	x.holds()
}

// othersCasts: those that the desk of misfits refuses, by the error that it has for them.
var othersCasts = []struct {
	line string
	e    api.Errno
}{
	{`4.1 ins 0 "x"`, api.ErrUser}, {`8.1 hide 0-1`, api.ErrUser},
	{`2.7 ins 0 "x"`, api.ErrOps}, {`3.1024 off 1.1`, api.ErrOps},
	{`2.3 ins 0 "xxxx"`, api.ErrCells}, {`3.1 ins 0 "xxxxxxx"`, api.ErrCells},
	{`2.3 ins 6 "x"`, api.ErrPlace}, {`2.3 hide 0-6`, api.ErrPlace}, {`2.3 hide 5-6`, api.ErrPlace}, {`3.1 ins 1000 "x"`, api.ErrPlace},
	{`2.1 ins 0 "x"`, api.ErrTwice}, {`2.2 off 1.1`, api.ErrTwice},
	{`2.3 off 3.1`, api.ErrUnknown}, {`2.3 off 1.2`, api.ErrUnknown},
	{`2.3 on 2.2`, api.ErrTarget},
}

// misfits: three commands are received, five cells; 1.2 is pending.
func misfits(t *testing.T) *pair {
	t.Helper()
	x := pairOf(t, 1, api.Limits{Clients: 3, Cells: 6, Ops: 6})
	x.all(insert(0, "ab"), handle(ack(1, 1)), handle(cast(2, `2.1 ins 1 "xyz"`)), handle(cast(3, `2.2 off 1.1`)), insert(0, "c"), tick())
	x.shows("cxyz", 3, `1.2 ins 1 "c"`)
	return x
}

// Casts of others' commands that the desk refuses are thrown away in their turn; the right one may come then.
func TestP15_5Refused(t *testing.T) {
	for _, c := range othersCasts {
		if err := misfits(t).c.Desk.Take(parse(c.line)); api.Code(err) != c.e { // of a client that is of no use any more
			t.Fatalf("chapter 8: Take(%s): %v", c.line, err)
		}
		x := misfits(t)
		sent, quiet := x.c.Waits()
		x.is(cast(4, c.line), 4, api.ErrTurn)
		x.holds()
		x.waits(sent, quiet)
		x.is(cast(4, c.line), 4, api.ErrTurn) // and again: it is not held
		x.ok(cast(4, `3.1 ins 0 "q"`))
		x.shows("qcxyz", 4, `1.2 ins 2 "c"`)
	}
}

// The same, held: nothing is told of it when it is thrown away later, and what is behind it stays held.
func TestP15_5RefusedLater(t *testing.T) {
	for _, c := range othersCasts {
		x := misfits(t)
		x.ok(cast(5, c.line))
		x.ok(cast(6, `3.2 hide 0-1`))
		x.ok(cast(8, `3.3 off 3.2`))
		x.holds(5, 6, 8)
		x.ok(cast(4, `3.1 off 2.1`)) // leaves all places as they are
		if x.c.Received() != 4 {
			t.Fatalf("P15.5: %s: R is %d", c.line, x.c.Received())
		}
		x.holds(6, 8)
		x.waits(0, 0)
		x.ok(ack(5, 2))
		x.holds(8)
		x.waits(-1, 0)
		if x.c.Received() != 6 {
			t.Fatalf("P15.5: R is %d", x.c.Received())
		}
	}
}

// Casts that the desk takes, of each kind, ahead of what is pending.
func TestP15_5Taken(t *testing.T) {
	for _, c := range []struct{ line, text, pending string }{
		{`3.1 ins 0 "q"`, "qcxyz", `1.2 ins 2 "c"`},
		{`3.1 ins 1 "q"`, "qcxyz", `1.2 ins 2 "c"`},
		{`3.1 ins 2 "q"`, "cxqyz", `1.2 ins 1 "c"`},
		{`3.1 ins 5 "q"`, "cxyzq", `1.2 ins 1 "c"`},
		{`2.3 hide 0-1,2-4`, "cx", `1.2 ins 1 "c"`},
		{`2.6 on 1.1`, "acxyzb", `1.2 ins 1 "c"`},
		{`3.1 off 2.1`, "c", `1.2 ins 1 "c"`},
		{`3.6 off 1.1`, "cxyz", `1.2 ins 1 "c"`}, // so already
	} {
		x := misfits(t)
		x.ok(cast(4, c.line))
		x.shows(c.text, 4, c.pending)
		x.waits(0, 0) // its own first one is still under way
	}
}

// A Cast of a command of the user's own that was received long ago, or never made, is none of another's: it is thrown away.
func TestP15_5OwnPast(t *testing.T) {
	x := misfits(t)
	for _, line := range []string{`1.1 ins 0 "ab"`, `1.3 ins 0 "x"`, `1.6 hide 0-1`, `1.1024 off 1.1`} {
		x.is(cast(4, line), 4, api.ErrTurn)
	}
	x.ok(ack(4, 2))
	for _, line := range []string{`1.2 ins 1 "c"`, `1.1 ins 0 "ab"`, `1.3 ins 0 "x"`} {
		x.is(cast(5, line), 5, api.ErrTurn)
	}
}

// One call takes as many turns as are there, others' and its own, up to the first gap.
func TestP15_5Several(t *testing.T) {
	x := pairAt(t, insert(0, "a"), tick(), tick(), insert(1, "b"), insert(2, "c"))
	for _, b := range [][]byte{ack(2, 1), cast(3, `2.2 hide 0-1`), cast(4, `1.2 ins 2 "b"`), ack(5, 3), cast(6, `3.1 off 1.2`), cast(8, `3.2 on 1.2`)} {
		x.ok(b)
	}
	x.holds(2, 3, 4, 5, 6, 8)
	x.waits(1, 1)
	x.ok(cast(1, `2.1 ins 0 "x"`))
	x.shows("ac", 6)
	x.holds(8)
	x.waits(-1, 0)
	x.ok(cast(7, `2.3 ins 4 "!"`))
	x.shows("abc!", 8)
	x.holds()
}

// Of a row of turns the one that doesn't fit ends it: what stands behind stays held, and has its turn when the right one has come.
func TestP15_5EndsEarly(t *testing.T) {
	for bad := 2; bad <= 5; bad++ {
		x := pairAt(t, insert(0, "a"))
		for rev := 2; rev <= 5; rev++ {
			if rev == bad {
				x.ok(unfit(rev))
			} else {
				x.ok(cast(rev, fmt.Sprintf(`2.%d ins 0 "%d"`, rev, rev)))
			}
		}
		x.ok(cast(1, `2.1 ins 0 "1"`)) // nothing is told of the one that was held
		var held []int
		for rev := bad + 1; rev <= 5; rev++ {
			held = append(held, rev)
		}
		x.holds(held...)
		if x.c.Received() != bad-1 {
			t.Fatalf("P15.5: R is %d", x.c.Received())
		}
		x.is(unfit(bad), bad, api.ErrTurn)
		x.holds(held...)
		x.ok(cast(bad, fmt.Sprintf(`2.%d ins 0 "%d"`, bad, bad)))
		x.shows("54321a", 5, `1.1 ins 5 "a"`)
		x.holds()
	}
}

// sent and quiet behind messages of all fates: only what is received moves them.
func TestP15_5Waits(t *testing.T) {
	x := pairAt(t, insert(0, "a"), insert(1, "b"), tick(), tick(), tick())
	x.waits(2, 2)
	x.is(unfit(1), 1, api.ErrTurn)
	x.waits(2, 2)
	x.ok(ack(3, 2)) // held
	x.waits(2, 2)
	x.is(ack(3, 2), 3, api.ErrDouble)
	x.is(ack(66, 2), 66, api.ErrFar)
	x.waits(2, 2)
	x.ok(cast(1, `2.1 ins 0 "x"`)) // another's: the quiet ends, the waiting goes on
	x.waits(2, 0)
	x.do(tick())
	x.waits(3, 1)
	x.is(cast(1, `2.1 ins 0 "x"`), 1, api.ErrOld)
	x.waits(3, 1)
	x.ok(ack(2, 1)) // its own, and the held one behind it
	x.shows("xab", 3)
	x.waits(-1, 0)
	x.sends()
	x.waits(-1, 1)
	x.do(insert(0, "c"))
	x.waits(-1, 1)
	x.sends(`S3 1.3 ins 0 "c"`)
	x.waits(0, 2)
}

// A thrown away message behind others that fitted leaves what these have done.
func TestP15_5WaitsLater(t *testing.T) {
	x := pairAt(t, insert(0, "a"), tick(), tick(), handle(unfit(2)), handle(unfit(3)))
	x.waits(1, 1)
	x.ok(ack(1, 1))
	x.waits(-1, 0)
	x.holds(3)
	x = pairAt(t, insert(0, "a"), tick(), tick(), handle(unfit(2)))
	x.ok(cast(1, `2.1 ins 0 "x"`))
	x.waits(1, 0)
	x.holds()
}

// The desk's calls between messages: a held message is held against what is there at its turn.
func TestP15_5DeskBetween(t *testing.T) {
	x := pairAt(t, handle(ack(2, 1)))
	x.is(ack(1, 1), 1, api.ErrTurn)
	x.makes(insert(0, "late"), `1.1 ins 0 "late"`) // what revision 2 tells of is made only now
	x.ok(cast(1, `2.1 ins 0 "x"`))
	x.shows("xlate", 2)

	x = pairAt(t, handle(cast(2, `2.2 hide 0-1`)), insert(0, "ab"), remove(0, 1), handle(cast(1, `2.1 ins 0 "x"`)))
	x.shows("b", 2, `1.1 ins 1 "ab"`, `1.2 hide 1-2`)
	x.all(undo(), undo())
	x.shows("", 2, `1.1 ins 1 "ab"`, `1.2 hide 1-2`, `1.3 off 1.2`, `1.4 off 1.1`)
	x.ok(cast(3, `3.1 ins 1 "y"`))
	x.shows("y", 3, `1.1 ins 2 "ab"`, `1.2 hide 2-3`, `1.3 off 1.2`, `1.4 off 1.1`)
}
