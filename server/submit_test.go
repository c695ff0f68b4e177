package server_test

import (
	"slices"
	"strings"
	"testing"

	"redraft/api"
)

// tight: few cells and commands.
var tight = api.Limits{Clients: 3, Cells: 6, Ops: 3}

// tightly: in a tight room client 1 has the revisions 1 and 3, client 2 the revisions 2 and 4; the last one is not durable. There are four cells.
func tightly(t *testing.T) *pair {
	t.Helper()
	x := newPair(t, wide)
	x.all(bootedAs(tight), handle(sub(1, 0, `1.1 ins 0 "ab"`)), tick(), handle(sub(2, 1, `2.1 ins 2 "cd"`)), tick(), handle(sub(1, 2, `1.2 off 2.1`)), tick(), handle(sub(2, 3, `2.2 hide 0-1`)))
	x.holds(4, 3, "ab")
	return x
}

// Each step alone, and two at once: the earlier one answers.
func TestP14_4Steps(t *testing.T) {
	const wideText = `"vwxyz"` // client 1 may put in four cells more
	for _, c := range []struct {
		client, rev int
		line        string
		e           api.Errno
	}{
		// 2: from long ago, whatever else is wrong with it.
		{1, 3, `1.1 ins 0 "ab"`, api.ErrStale},
		{1, 0, `1.1 ins 0 "ab"`, api.ErrStale},
		{1, 4, `1.1 ins 0 "ab"`, api.ErrStale},
		{1, 3, `1.1 ins 0 ` + wideText, api.ErrStale},
		{1, 3, `1.1 ins 9 "a"`, api.ErrStale},
		{1, 3, `1.1 off 3.3`, api.ErrStale},
		{2, 3, `2.1 ins 0 "a"`, api.ErrStale},
		// 3: sent again, whatever it holds.
		{1, 3, `1.2 off 2.1`, api.OK},
		{1, 0, `1.2 off 2.1`, api.OK},
		{1, 8192, `1.2 off 2.1`, api.OK},
		{1, 3, `1.2 ins 0 ` + wideText, api.OK},
		{1, 3, `1.2 hide 77-99`, api.OK},
		{1, 3, `1.2 on 3.3`, api.OK},
		{2, 4, `2.2 ins 1000 "another text"`, api.OK},
		// 4: not the next.
		{1, 3, `1.5 ins 0 "x"`, api.ErrSeq},
		{1, 3, `1.4 ins 0 "x"`, api.ErrSeq}, // beyond the limit too
		{1, 2, `1.4 ins 0 "x"`, api.ErrSeq},
		{1, 4, `1.1024 ins 9 ` + wideText, api.ErrSeq},
		{3, 0, `3.2 ins 0 "x"`, api.ErrSeq},
		{3, 4, `3.2 ins 0 "x"`, api.ErrSeq},
		{3, 0, `3.2 ins 0 "1234567"`, api.ErrSeq},
		{3, 0, `3.2 ins 1 "x"`, api.ErrSeq},
		{3, 3, `3.3 off 1.2`, api.ErrSeq},
		// 6: the base.
		{1, 2, `1.3 ins 0 "x"`, api.ErrBase},
		{1, 0, `1.3 ins 0 "x"`, api.ErrBase},
		{1, 4, `1.3 ins 0 "x"`, api.ErrBase}, // written, not durable
		{1, 5, `1.3 ins 0 "x"`, api.ErrBase},
		{1, 8192, `1.3 ins 0 "x"`, api.ErrBase},
		{2, 3, `2.3 ins 0 "x"`, api.ErrBase}, // its own last one is not durable: there is no base
		{2, 4, `2.3 ins 0 "x"`, api.ErrBase},
		{3, 4, `3.1 ins 0 "x"`, api.ErrBase},
		{1, 2, `1.3 ins 0 ` + wideText, api.ErrBase},
		{1, 4, `1.3 ins 0 ` + wideText, api.ErrBase},
		{1, 2, `1.3 ins 9 "x"`, api.ErrBase},
		{1, 2, `1.3 off 3.3`, api.ErrBase},
		// 7: the cells.
		{1, 3, `1.3 ins 0 ` + wideText, api.ErrCells},
		{1, 3, `1.3 ins 5 ` + wideText, api.ErrCells},
		{3, 0, `3.1 ins 0 "1234567"`, api.ErrCells},
		{3, 0, `3.1 ins 1 "1234567"`, api.ErrCells},
		// 8: what has no place at its base.
		{1, 3, `1.3 ins 5 "x"`, api.ErrPlace},
		{1, 3, `1.3 hide 3-5`, api.ErrPlace},
		{1, 3, `1.3 hide 0-1,4-5`, api.ErrPlace},
		{3, 0, `3.1 ins 1 "x"`, api.ErrPlace},
		{3, 1, `3.1 ins 3 "x"`, api.ErrPlace},
		{3, 1, `3.1 hide 2-3`, api.ErrPlace},
		{3, 2, `3.1 ins 5 "x"`, api.ErrPlace},
		// 9: the target.
		{1, 3, `1.3 off 3.1`, api.ErrUnknown},
		{1, 3, `1.3 off 2.2`, api.ErrUnknown}, // revision 4
		{3, 0, `3.1 off 1.1`, api.ErrUnknown},
		{3, 1, `3.1 off 2.1`, api.ErrUnknown}, // revision 2
		{3, 2, `3.1 off 1.2`, api.ErrUnknown}, // revision 3, and a Status
		{3, 3, `3.1 off 1.2`, api.ErrTarget},
		{3, 3, `3.1 on 1.2`, api.ErrTarget},
		// What is written.
		{1, 3, `1.3 ins 4 "wxyz"`, api.OK},
		{1, 3, `1.3 hide 0-4`, api.OK},
		{1, 3, `1.3 on 2.1`, api.OK},
		{1, 3, `1.3 off 2.1`, api.OK}, // it stands so already
		{1, 3, `1.3 off 1.1`, api.OK},
		{3, 0, `3.1 ins 0 "123456"`, api.OK},
		{3, 1, `3.1 ins 2 "x"`, api.OK},
		{3, 1, `3.1 hide 0-2`, api.OK},
		{3, 1, `3.1 off 1.1`, api.OK},
		{3, 2, `3.1 off 2.1`, api.OK},
		{3, 3, `3.1 ins 4 "x"`, api.OK},
	} {
		x := tightly(t)
		x.is(handle(sub(c.client, c.rev, c.line)), c.e)
		x.is(tick(), api.OK)
	}
}

// 5: the commands' limit, of each kind of a last command, ahead of all later steps.
func TestP14_4Ops(t *testing.T) {
	for _, last := range []string{`1.3 ins 0 "x"`, `1.3 hide 0-1`, `1.3 on 2.1`} {
		for _, next := range []string{`1.4 ins 0 "x"`, `1.4 hide 0-1`, `1.4 off 1.1`, `1.4 ins 0 "vwxyz12"`, `1.4 ins 99 "x"`, `1.4 off 3.3`, `1.4 off 1.2`} {
			x := tightly(t)
			x.is(handle(sub(1, 3, last)), api.OK)
			x.is(tick(), api.OK)
			for _, base := range []int{0, 3, 4, 5, 6, 8192} {
				x.is(handle(sub(1, base, next)), api.ErrOps)
			}
			x.is(handle(sub(1, 5, strings.Replace(next, "1.4", "1.5", 1))), api.ErrSeq)
			x.is(handle(sub(1, 5, last)), api.OK)
		}
	}
	one := newPair(t, wide)
	one.do(bootedAs(api.Limits{Clients: 1, Cells: 1, Ops: 1}))
	one.is(handle(sub(1, 0, `1.1 ins 0 "xy"`)), api.ErrCells)
	one.is(handle(sub(1, 0, `1.1 ins 0 "x"`)), api.OK)
	one.is(handle(sub(1, 1, `1.2 hide 0-1`)), api.ErrOps)
	one.tells("A1>1")
	one.is(handle(sub(1, 1, `1.2 hide 0-1`)), api.ErrOps)
}

// 7: cells are counted by client, of inserts alone, also of those that are off; runes are counted, not bytes.
func TestP14_4Cells(t *testing.T) {
	x := newPair(t, wide)
	x.do(bootedAs(api.Limits{Clients: 2, Cells: 4, Ops: 20}))
	x.is(handle(sub(1, 0, `1.1 ins 0 "\u{20ac}\u{1f600}"`)), api.OK)
	x.is(handle(sub(2, 0, `2.1 ins 0 "abcd"`)), api.OK)
	x.is(tick(), api.OK)
	x.is(handle(sub(2, 2, `2.2 ins 0 "e"`)), api.ErrCells)
	x.is(handle(sub(2, 2, `2.2 off 2.1`)), api.OK)
	x.is(tick(), api.OK)
	x.is(handle(sub(2, 3, `2.3 ins 0 "e"`)), api.ErrCells)
	x.is(handle(sub(2, 3, `2.3 hide 0-6`)), api.OK)
	x.is(handle(sub(1, 3, `1.2 ins 0 "abc"`)), api.ErrCells)
	x.is(handle(sub(1, 3, `1.2 ins 0 "ab"`)), api.OK)
	x.is(tick(), api.OK)
	x.is(handle(sub(1, 5, `1.3 ins 0 "a"`)), api.ErrCells)
	// They are counted anew from the journal.
	x.do(bootedAs(api.Limits{Clients: 2, Cells: 4, Ops: 20}))
	x.is(handle(sub(1, 5, `1.3 ins 0 "a"`)).on(1), api.ErrCells)
	x.is(handle(sub(2, 5, `2.4 ins 0 "a"`)).on(1), api.ErrCells)
}

// 6: all bases from the client's own last command to the last durable one are let in, and no others.
func TestP14_4Bases(t *testing.T) {
	begin := func() *pair {
		return pairAt(t, handle(sub(2, 0, `2.1 ins 0 "a"`)), tick(), handle(sub(1, 1, `1.1 ins 1 "b"`)), tick(), handle(sub(2, 2, `2.2 ins 2 "c"`)), tick(), handle(sub(2, 3, `2.3 ins 3 "d"`)), tick(), handle(sub(2, 4, `2.4 ins 4 "e"`)))
	}
	for client, from := range map[int]int{1: 2, 2: 5, 3: 0} {
		for base := 0; base <= 7; base++ {
			e := api.ErrBase
			if from <= base && base <= 4 {
				e = api.OK
			}
			x := begin()
			last := x.ss[0].Last(client)
			x.is(handle(sealed(api.Msg{Code: api.Submit, Client: client, Rev: base, Op: api.Op{Head: api.Head{ID: api.ID{client, last + 1}, Kind: api.Ins}, Text: "x"}})), e)
		}
	}
}

// 3: sent again between the write and the tick, behind the tick, and behind the client's next command.
func TestP14_4SentAgain(t *testing.T) {
	again := handle(sub(1, 0, `1.1 ins 0 "ab"`))
	next := handle(sub(1, 1, `1.2 hide 0-1`))
	x := pairAt(t, again, again, again)
	x.holds(1, 0, "")
	x.tells("A1>1")
	x.holds(1, 1, "ab")
	x.all(again, again)
	x.holds(1, 1, "ab")
	x.tells("A1>1")
	x.tells("")

	// The next one has been written since: both are told of.
	x = pairAt(t, again, tick(), again, next)
	x.tells("A2>1 A1>1")
	x.tells("")

	// The next one is sent again too: that is the latest note.
	x = pairAt(t, again, tick(), again, next, next)
	x.tells("A2>1")
	x.tells("")
	x.is(next, api.OK)
	x.tells("A2>1")

	// One from long ago leaves the note.
	x = pairAt(t, again, tick(), next, tick(), next)
	x.is(again, api.ErrStale)
	x.tells("A2>1")
	x = pairAt(t, again, tick(), next, tick())
	x.is(again, api.ErrStale)
	x.tells("")
}

// 3: a client that sends again is known by it, also to a server that has only found its command; the author alone is told.
func TestP14_4AgainKnown(t *testing.T) {
	x := pairAt(t, handle(sub(1, 0, `1.1 ins 0 "a"`)), handle(sub(2, 0, `2.1 ins 0 "b"`)), tick(), booted())
	x.knows()
	x.is(handle(sub(2, 9, `2.1 hide 0-9`)).on(1), api.OK)
	x.knows(2)
	if got := told(t, x.is(tick().on(1), api.OK).packets); !slices.Equal(got, []string{"A2>2 1"}) {
		t.Fatalf("P14.5: %q", got)
	}
	x.is(handle(sub(3, 2, `3.1 off 1.1`)).on(1), api.OK)
	if got := told(t, x.is(tick().on(1), api.OK).packets); !slices.Equal(got, []string{"C3>2 3.1 off 1.1", "A3>3 1"}) {
		t.Fatalf("P14.5: %q", got)
	}
}

// What is refused, at any step, is not written, and makes nobody known; the same command comes right later.
func TestP14_4RefusedThenRight(t *testing.T) {
	x := pairAt(t, handle(sub(1, 0, `1.1 ins 0 "abc"`)))
	x.is(handle(sub(2, 1, `2.1 off 1.1`)), api.ErrBase)
	x.knows(1)
	x.is(handle(sub(2, 0, `2.1 off 1.1`)), api.ErrUnknown)
	x.tells("A1>1")
	x.is(handle(sub(2, 1, `2.1 off 1.1`)), api.OK)
	x.knows(1, 2)
	x.tells("C2>1 A2>2")
	x.holds(2, 2, "")
}
