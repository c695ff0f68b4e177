package server_test

import (
	"slices"
	"testing"

	"redraft/api"
)

// The chapter's table, row by row.
func TestExamples(t *testing.T) {
	lim := api.Limits{Clients: 2, Cells: 100, Ops: 100}
	x := newPair(t, wide)
	x.is(bootedAs(lim), api.OK)
	x.is(handle(hello(2, 0)), api.OK)
	x.knows(2)
	x.is(handle(hello(1, 1)), api.ErrBase)
	x.knows(2)
	x.is(handle(sub(1, 0, `1.1 ins 0 "ab"`)), api.OK)
	x.holds(1, 0, "")
	x.knows(1, 2)
	x.is(handle(sub(2, 1, `2.1 ins 2 "c"`)), api.ErrBase)
	x.is(handle(sub(2, 0, `2.1 ins 0 "c"`)), api.OK)
	x.holds(2, 0, "")
	if got := x.do(logged(1, 2)).ops; !slices.Equal(got, []string{`2.1 ins 2 "c"`}) {
		t.Fatalf("P14.12: Log(1, 2) = %q", got)
	}
	x.is(handle(sub(2, 0, `2.1 ins 0 "c"`)), api.OK)
	x.holds(2, 0, "")
	x.tells("A1>1 C1>2 C2>1 A2>2")
	x.holds(2, 2, "abc")
	x.tells("")
	x.is(handle(sub(2, 0, `2.1 ins 0 "c"`)), api.OK)
	x.tells("A2>2")
	x.is(handle(hello(1, 0)), api.OK)
	x.tells("C1>1 C2>1")
	x.is(handle(sub(1, 2, `1.3 ins 0 "x"`)), api.ErrSeq)
	x.is(handle(sub(1, 0, `1.2 hide 0-1`)), api.ErrBase)
	x.is(handle(sub(1, 1, `1.2 hide 2-3`)), api.ErrPlace)
	x.is(handle(sub(1, 1, `1.2 hide 0-2`)), api.OK)
	x.holds(3, 2, "abc")
	x.is(handle(sub(1, 1, `1.1 ins 0 "ab"`)), api.ErrStale)
	x.do(arm(1, 0))
	if got := x.is(tick(), api.ErrStopped); len(got.packets) > 0 {
		t.Fatalf("P14.5: %q of a Tick that has failed", told(t, got.packets))
	}
	x.holds(3, 2, "abc")
	x.is(handle(hello(1, 0)), api.ErrStopped)
	x.do(up())
	x.is(bootedAs(lim), api.OK)
	x.holds(2, 2, "abc")
	x.knows()
	x.is(handle(sub(1, 1, `1.2 hide 0-2`)).on(1), api.OK)
	if got := told(t, x.is(tick().on(1), api.OK).packets); !slices.Equal(got, []string{"A3>1 2"}) {
		t.Fatalf("P14.5: %q", got)
	}
	x.holds(3, 3, "c")
}

// DOC.md, 'The protocol', and its examples 5 and 6: a sync that crashes and keeps nothing, or all.
func TestProtocolExamples(t *testing.T) {
	for keep, durable := range map[int]int{0: 0, 99: 1} {
		x := pairAt(t, handle(hello(1, 0)), handle(sub(1, 0, `1.1 ins 0 "a"`)), arm(1, keep))
		x.is(tick(), api.ErrStopped)
		x.all(up(), booted())
		x.holds(durable, durable, "a"[:durable])
		x.is(handle(sub(1, 0, `1.1 ins 0 "a"`)).on(1), api.OK)
		if got := told(t, x.is(tick().on(1), api.OK).packets); !slices.Equal(got, []string{"A1>1 1"}) {
			t.Fatalf("P7: with %d bytes kept: %q", keep, got)
		}
		x.holds(1, 1, "a")
	}
}
