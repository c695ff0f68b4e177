package server_test

import (
	"errors"
	"math"
	"slices"
	"testing"

	"redraft/api"
	"redraft/disk"
	"redraft/server"
)

// changes: how many changing calls of the disk f makes. It is armed far off, and the calls that are still left to the crash are counted; all bytes stay.
func changes(t *testing.T, d *disk.Disk, f func()) int {
	t.Helper()
	const steps = 9
	if e := d.Arm(steps, math.MaxInt); e != api.OK {
		t.Fatal(e)
	}
	f()
	n := steps
	for !d.Down() {
		d.Append("probe", nil)
		n--
	}
	d.Up()
	d.Remove("probe") // gone with the crash, if nothing was in it
	return n
}

// How often each call changes the disk.
func TestP14_7Changes(t *testing.T) {
	d := made(t, wide)
	var s *server.Server
	count := func(want int, what string, e api.Errno, f func() error) {
		t.Helper()
		var err error
		if got := changes(t, d, func() { err = f() }); got != want || api.Code(err) != e {
			t.Fatalf("P14.7: %s changes the disk %d times, want %d (%v)", what, got, want, err)
		}
	}
	booting := func() (err error) {
		s, err = server.Boot(d, room)
		return err
	}
	handling := func(b []byte) func() error { return func() error { return s.Handle(b) } }
	ticking := func() error { _, err := s.Tick(); return err }
	count(0, "Boot of an empty disk", api.OK, booting)
	count(0, "a Tick without anything", api.OK, ticking)
	count(0, "a Hello", api.OK, handling(hello(1, 0)))
	count(1, "a Submit", api.OK, handling(sub(1, 0, `1.1 ins 0 "a"`)))
	count(0, "one sent again", api.OK, handling(sub(1, 0, `1.1 ins 0 "a"`)))
	count(1, "a Submit", api.OK, handling(sub(2, 0, `2.1 ins 0 "b"`)))
	count(1, "a Tick behind two Submits", api.OK, ticking)
	count(0, "a Tick behind it", api.OK, ticking)
	count(0, "a Hello", api.OK, handling(hello(1, 0)))
	count(0, "one sent again", api.OK, handling(sub(1, 0, `1.1 ins 0 "a"`)))
	count(0, "a Tick that tells much and syncs nothing", api.OK, ticking)
	count(0, "no frame", api.ErrShort, handling(nil))
	count(0, "a Hello beyond", api.ErrBase, handling(hello(1, 9)))
	count(0, "a Hello of nobody", api.ErrClient, handling(hello(8, 0)))
	count(0, "a Submit out of its turn", api.ErrSeq, handling(sub(1, 0, `1.3 ins 0 "x"`)))
	count(0, "a Submit with no base", api.ErrBase, handling(sub(1, 9, `1.2 ins 0 "x"`)))
	count(0, "a Submit with no place", api.ErrPlace, handling(sub(1, 2, `1.2 ins 9 "x"`)))
	count(0, "a Submit with no target", api.ErrUnknown, handling(sub(1, 2, `1.2 off 3.1`)))
	count(0, "what is told", api.ErrPlace, func() error {
		s.Log(0, 2)
		s.Known()
		s.Last(1)
		s.Revision()
		s.Durable()
		s.Text()
		_, err := s.Log(5, 1)
		return err
	})
	count(0, "Boot of durable records", api.OK, booting)
	count(0, "Boot with limits that are none", api.ErrLimits, func() error { _, err := server.Boot(d, api.Limits{}); return err })
	count(1, "a Submit", api.OK, handling(sub(1, 2, `1.2 ins 0 "c"`)))
}

// A Submit that is answered ErrFull: the write, and the cut of what was written of it.
func TestP14_7Full(t *testing.T) {
	for _, c := range []struct{ limit, want int }{{0, 1}, {1, 2}, {10, 2}} {
		d := made(t, c.limit)
		s := boot(t, d, room)
		if got := changes(t, d, func() { s.Handle(sub(1, 0, `1.1 ins 0 "a"`)) }); got != c.want {
			t.Fatalf("P14.7: on a disk for %d bytes a Submit changes it %d times, want %d", c.limit, got, c.want)
		}
	}
}

// Boot's changing calls are those of journal.Open: a cut of what is torn, a sync of what is loose.
func TestP14_7Boot(t *testing.T) {
	good := fileOf(t, allCoded(`1.1 ins 0 "a"`, `2.1 ins 0 "b"`)...)
	torn := append(slices.Clone(good), 1, 2, 3)
	for _, c := range []struct {
		b            []byte
		synced, want int
	}{{good, len(good), 0}, {good, 0, 1}, {good, len(good) - 1, 1}, {torn, len(torn), 1}, {torn, 0, 2}, {torn, len(good), 1}, {torn[:2], 0, 1}} {
		d, e := disk.Load(wide, []api.File{{Name: "journal", Bytes: c.b, Synced: c.synced}})
		if e != api.OK {
			t.Fatal(e)
		}
		if got := changes(t, d, func() { boot(t, d, room) }); got != c.want {
			t.Fatalf("P14.7: Boot of %d bytes, %d durable, changes the disk %d times, want %d", len(c.b), c.synced, got, c.want)
		}
	}
}

// full: a pair whose disks have so many bytes left behind the server's first command, which is not durable.
func full(t *testing.T, left int) *pair {
	t.Helper()
	x := newPair(t, 1000)
	x.all(booted(), handle(sub(1, 0, `1.1 ins 0 "a"`)))
	for _, d := range []*disk.Disk{x.d, x.e} {
		d.Append("other", make([]byte, 1000-left-d.Used()))
	}
	return x
}

// A full disk refuses a command, whatever room it has left, and nothing is changed; when there is room again the same command comes in.
func TestP14_4Full(t *testing.T) {
	submit := handle(sub(2, 0, `2.1 ins 0 "bcd"`))
	need := len(fileOf(t, allCoded(`1.1 ins 0 "a"`, `2.1 ins 1 "bcd"`)...)) - len(fileOf(t, allCoded(`1.1 ins 0 "a"`)...))
	for left := range need {
		x := full(t, left)
		if got := x.do(submit).trouble; got != "Handle at 0: Append at 1: redraft: error 111" {
			t.Fatalf("P14.4: with %d bytes left: %q", left, got)
		}
		x.holds(1, 0, "")
		x.knows(1)
		x.do(submit)
		x.tells("A1>1")
		x.holds(1, 1, "a")
		for _, d := range []*disk.Disk{x.d, x.e} {
			d.Remove("other")
		}
		x.is(submit, api.OK)
		x.tells("C2>1 A2>2")
		x.holds(2, 2, "abcd")
	}
	x := full(t, need)
	x.is(submit, api.OK)
}

// The Fault of a full disk: the journal's own one lies in it.
func TestP14_4FullFault(t *testing.T) {
	d := made(t, 3)
	s := boot(t, d, room)
	err := s.Handle(sub(2, 0, `2.1 ins 0 "x"`))
	var f *api.Fault
	if !errors.As(err, &f) || f.Call != "Handle" || f.At != 0 {
		t.Fatalf("P14.4: %v", err)
	}
	g, ok := f.Err.(*api.Fault)
	if !ok || *g != (api.Fault{Call: "Append", At: 0, Err: api.ErrFull}) {
		t.Fatalf("P14.4: within it %v", f.Err)
	}
	if files := d.Files(); len(files) != 1 || files[0].Name != "journal" || len(files[0].Bytes) != 0 {
		t.Fatalf("P14.4: files %v", files)
	}
	isAt(t, s, 0, 0, "")
	if n := s.Known(); len(n) > 0 {
		t.Fatalf("P14.4: Known %v", n)
	}
	if ps, err := s.Tick(); len(ps) > 0 || err != nil {
		t.Fatalf("P14.4: the server doesn't go on: %v, %v", ps, err)
	}
	must(t, s.Handle(hello(1, 0)))
}

// A full disk and an armed one: the write itself crashes, or the cut behind it; both stop the server.
func TestP14_4FullAndArmed(t *testing.T) {
	for left := range 20 {
		for steps := 1; steps <= 3; steps++ {
			for _, keep := range []int{0, 7, 1000} {
				x := full(t, left)
				x.do(arm(steps, keep))
				crashes := steps == 1 || steps == 2 && left > 0 // no byte written: nothing is cut
				if got := x.do(handle(sub(2, 0, `2.1 ins 0 "bcdefgh"`))).trouble; (got == trouble("Handle", 0, api.ErrStopped)) != crashes {
					t.Fatalf("P14.4: %d bytes left, armed at %d: %q", left, steps, got)
				}
				x.holds(1, 0, "")
				x.knows(1)
				x.all(up(), tick(), booted())
			}
		}
	}
}

// Two servers on one disk: what the second one writes closes the first one's journal; it stops with its next write or sync, and not ahead of it.
func TestP14_10SecondServer(t *testing.T) {
	for _, next := range []step{handle(sub(3, 1, `3.1 ins 0 "x"`)), tick()} {
		for _, loose := range []int{0, 1} {
			if loose == 0 && next.kind == "Tick" {
				continue // nothing to sync: it is not noticed
			}
			x := pairAt(t, handle(sub(1, 0, `1.1 ins 0 "a"`)), tick())
			if loose == 1 {
				x.do(handle(sub(1, 1, `1.2 ins 0 "b"`)))
			}
			x.is(booted(), api.OK)
			x.holds(1+loose, 1+loose, "ba"[1-loose:])
			x.is(handle(sub(2, 1, `2.1 ins 0 "c"`)).on(1), api.OK)
			x.is(handle(hello(2, 0)), api.OK) // the first one has not noticed yet
			x.is(next, api.ErrStopped)
			x.is(handle(hello(2, 0)), api.ErrStopped)
			x.is(tick(), api.ErrStopped)
			x.is(tick().on(1), api.OK)
			x.is(handle(hello(2, 0)).on(1), api.OK)
			isAt(t, x.ss[0], 1+loose, 1, "a")
		}
	}
}

// A second server that only looks leaves the first one running; then the first one writes, and the second one stops.
func TestP14_10SecondLooks(t *testing.T) {
	x := pairAt(t, handle(sub(1, 0, `1.1 ins 0 "a"`)), booted())
	x.is(tick(), api.OK)
	x.is(handle(sub(1, 1, `1.2 ins 1 "b"`)), api.OK)
	x.is(tick().on(1), api.OK) // nothing to sync
	x.is(handle(sub(2, 1, `2.1 ins 1 "c"`)).on(1), api.ErrStopped)
	x.is(tick(), api.OK)
	isAt(t, x.ss[0], 2, 2, "ab")
	isAt(t, x.ss[1], 1, 1, "a")
}

// Somebody else changes the file: the server stops with its next write or sync.
func TestP14_5Meddled(t *testing.T) {
	for _, meddle := range []step{fileAppend([]byte{1}), fileCut(0), fileCut(5), fileRemove()} {
		for _, next := range []step{handle(sub(2, 1, `2.1 ins 0 "c"`)), tick()} {
			x := pairAt(t, handle(sub(1, 0, `1.1 ins 0 "a"`)), tick(), handle(sub(1, 1, `1.2 ins 0 "b"`)), meddle)
			x.is(handle(hello(3, 1)), api.OK)
			x.is(next, api.ErrStopped)
			x.holds(2, 1, "a")
		}
	}
}
