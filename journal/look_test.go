package journal_test

import (
	"testing"

	"redraft/api"
)

// both: the same must come of an Append and of a Sync of journal 0, which has length records, durable ones of them durable.
func both(t *testing.T, build func() *pair, length, durable int, e api.Errno, steps ...step) {
	t.Helper()
	for _, call := range []step{appended(0, "new"), synced(0)} {
		x := build()
		x.all(steps...)
		at := length
		if call.kind == "Sync" {
			at = durable
		}
		x.is(call, at, e)
		x.all(up())
		x.do(opened())
		if e != api.OK { // once closed it stays closed
			x.is(appended(0, "more"), length, api.ErrClosed)
			x.is(synced(0), durable, api.ErrClosed)
		}
	}
}

// What others have done to the file.
func TestP12_5Others(t *testing.T) {
	// "ab" and "" durable, "c" loose: 51 bytes, 34 durable.
	three := func() *pair { return first(t) }
	for _, c := range []struct {
		e     api.Errno
		steps []step
	}{
		{api.OK, nil},
		{api.ErrClosed, []step{fileAppend([]byte{0})}},
		{api.ErrClosed, []step{fileAppend(framed(3, "d"))}},
		{api.OK, []step{fileAppend(nil)}},
		{api.OK, []step{fileAppend([]byte("torn")), fileCut(51)}},
		{api.ErrClosed, []step{fileCut(50)}},
		{api.ErrClosed, []step{fileCut(34)}},
		{api.ErrClosed, []step{fileCut(0)}},
		{api.OK, []step{fileCut(34), fileAppend(framed(2, "c"))}},
		{api.OK, []step{fileCut(34), fileAppend(framed(2, "x"))}},
		{api.ErrClosed, []step{fileCut(33), fileAppend(run("ab", "", "c")[33:])}},      // 33 durable
		{api.OK, []step{fileCut(33), fileAppend(run("ab", "", "c")[33:]), fileSync()}}, // 51 durable
		{api.ErrClosed, []step{fileCut(0), fileAppend(run("ab", "", "c"))}},            // none durable
		{api.ErrFile, []step{fileRemove()}},
		{api.ErrClosed, []step{fileRemove(), fileAppend(nil)}},
		{api.ErrClosed, []step{fileRemove(), fileAppend(run("ab", "", "c"))}},
		{api.OK, []step{fileRemove(), fileAppend(run("ab", "", "c")), fileSync()}},
		{api.OK, []step{fileSync()}},
		{api.OK, []step{fileTurn(0, 1)}}, // spoilt, but as long and as durable
		{api.OK, []step{fileTurn(50, 255)}},
		{api.ErrDown, []step{crash(0)}},
		{api.ErrDown, []step{crash(100)}},
		{api.ErrClosed, []step{crash(0), up()}},
		{api.ErrClosed, []step{crash(1), up()}},
		{api.ErrClosed, []step{crash(16), up()}},
		{api.OK, []step{crash(17), up()}}, // a crash that has taken nothing
		{api.OK, []step{up()}},
	} {
		both(t, three, 3, 2, c.e, c.steps...)
	}
}

// A journal whose size is 0: there is no file, or one without bytes.
func TestP12_5Empty(t *testing.T) {
	none := func() *pair {
		x := newPair(t, wide)
		x.all(opened())
		return x
	}
	empty := func() *pair {
		x := pairOf(t, nil, 0)
		x.all(opened())
		return x
	}
	cut := func() *pair {
		x := pairOf(t, []byte("torn"), 4)
		x.all(opened())
		return x
	}
	for _, build := range []func() *pair{none, empty, cut} {
		both(t, build, 0, 0, api.OK)
		both(t, build, 0, 0, api.OK, fileAppend(nil))
		both(t, build, 0, 0, api.OK, fileAppend(nil), fileRemove())
		both(t, build, 0, 0, api.OK, crash(0), up())
		both(t, build, 0, 0, api.ErrDown, crash(0))
		both(t, build, 0, 0, api.ErrClosed, fileAppend([]byte{1}))
		both(t, build, 0, 0, api.ErrClosed, fileAppend(framed(0, "")))
		both(t, build, 0, 0, api.ErrClosed, fileAppend(framed(0, "")), crash(99), up())
		both(t, build, 0, 0, api.OK, fileAppend(framed(0, "")), crash(0), up())
	}
}

// Loose records, none durable: bytes of other durability don't matter, a missing file does.
func TestP12_5Loose(t *testing.T) {
	loose := func() *pair {
		x := newPair(t, wide)
		x.all(opened(), appended(0, "a"), appended(0, "b"))
		return x
	}
	both(t, loose, 2, 0, api.OK)
	both(t, loose, 2, 0, api.OK, fileRemove(), fileAppend(run("a", "b")))
	both(t, loose, 2, 0, api.ErrFile, fileRemove())
	both(t, loose, 2, 0, api.ErrFile, crash(0), up())
	both(t, loose, 2, 0, api.ErrClosed, crash(33), up())
	both(t, loose, 2, 0, api.OK, crash(34), up())
	both(t, loose, 2, 0, api.ErrDown, crash(34))
}

// Just as many durable bytes as the durable records have are enough, one fewer are not.
func TestP12_5Durable(t *testing.T) {
	for hard := range 52 {
		x := first(t)
		x.all(fileCut(hard), fileAppend(run("ab", "", "c")[hard:]))
		x.holds(51, min(hard, 34))
		e := api.OK
		if hard < 34 {
			e = api.ErrClosed
		}
		x.is(appended(0, "d"), 3, e)
	}
}

// Two journals on one file: what one does the other sees by the file's length and durable bytes alone.
func TestP12_5Two(t *testing.T) {
	x := newPair(t, wide)
	x.all(opened(), opened())
	x.is(appended(0, "x"), 0, api.OK)
	x.is(synced(1), 0, api.ErrClosed)
	x.is(synced(0), 0, api.OK)
	x.found(0, "x")
	x.is(synced(0), 0, api.OK)
	x.is(synced(2), 0, api.OK)
	x.is(appended(2, "y"), 0, api.OK)
	x.is(appended(0, "z"), 1, api.ErrClosed)
	x.is(appended(2, "w"), 0, api.OK)
	x.is(records(0, 0, 1), 0, api.OK)
	x.is(records(1, 0, 0), 0, api.OK)
	x.found(0, "x", "y", "w")

	// An Open syncs what another journal has left loose: that one goes on, and knows nothing of it.
	x = newPair(t, wide)
	x.all(opened(), appended(0, "x"))
	x.found(0, "x")
	x.holds(17, 17)
	x.is(appended(0, "y"), 0, api.OK)
	x.is(synced(0), 0, api.OK)
	x.is(synced(1), 1, api.ErrClosed)
}
