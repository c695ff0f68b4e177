package world_test

import (
	"bytes"
	"encoding/binary"
	"slices"
	"testing"

	"redraft/api"
	"redraft/frame"
	"redraft/op"
	"redraft/world"
)

// parse: the operation of a line.
func parse(line string) api.Op {
	o, e := op.Parse(line)
	if e != api.OK {
		panic("no operation: " + line)
	}
	return o
}

// fileOf: the bytes of a journal with these commands.
func fileOf(lines ...string) []byte {
	var out []byte
	for k, l := range lines {
		out = append(out, recordOf(k, parse(l))...)
	}
	return out
}

// rawRecord: the frame of record k with any bytes.
func rawRecord(k int, b string) []byte {
	out, _ := frame.Wrap(append(binary.BigEndian.AppendUint32(nil, uint32(k)), b...))
	return out
}

// journalOf: the one file of a disk.
func journalOf(b []byte, synced int) []api.File {
	return []api.File{{Name: "journal", Bytes: b, Synced: synced}}
}

// openPair: a world that must open.
func openPair(t *testing.T, lim api.Limits, files []api.File) *pair {
	t.Helper()
	w, e := world.Open(lim, files)
	p, f := newPlain(lim, files)
	if w == nil || e != api.OK || f != api.OK {
		t.Fatalf("P17.1: Open(%v, %s) = %d, want %d", lim, fileTexts(files), int(e), int(f))
	}
	x := &pair{t: t, w: w, p: p}
	x.see()
	return x
}

// history: a journal of three clients.
var history = []string{`1.1 ins 0 "abc"`, `2.1 ins 1 "XY"`, `1.2 hide 0-1,3-4`, `2.2 off 1.2`, `3.1 ins 5 "\u{e9}"`, `2.3 off 2.1`}

var roomOfThree = api.Limits{Clients: 3, Cells: 9, Ops: 9}

// mustNotOpen: an error, and no world.
func mustNotOpen(t *testing.T, lim api.Limits, files []api.File, want api.Errno) {
	t.Helper()
	if w, e := world.Open(lim, files); w != nil || e != want {
		t.Fatalf("P17.1: Open(%v, %s) = %v, %d, want %d", lim, fileTexts(files), w != nil, int(e), int(want))
	}
}

// Files that disk.Load refuses; its errors come ahead of the server's.
func TestOpenLoadErrors(t *testing.T) {
	bad := api.File{Name: "journal", Bytes: rawRecord(0, "no command"), Synced: 0}
	for _, c := range []struct {
		file api.File
		e    api.Errno
	}{
		{api.File{Name: ""}, api.ErrName}, {api.File{Name: "Journal"}, api.ErrName}, {api.File{Name: "a b"}, api.ErrName}, {api.File{Name: "a/b", Synced: 4}, api.ErrName},
		{api.File{Name: "journal"}, api.ErrTwice}, {api.File{Name: "journal", Synced: -1}, api.ErrTwice},
		{api.File{Name: "k", Bytes: []byte("abc"), Synced: 4}, api.ErrPlace}, {api.File{Name: "k", Bytes: []byte("abc"), Synced: -1}, api.ErrPlace},
		{api.File{Name: "k", Synced: 1}, api.ErrPlace}, {api.File{Name: "k", Synced: far[0]}, api.ErrPlace}, {api.File{Name: "k", Synced: far[5]}, api.ErrPlace},
	} {
		mustNotOpen(t, room, []api.File{bad, c.file}, c.e)
		mustNotOpen(t, room, []api.File{{Name: "journal"}, c.file}, c.e)
		mustNotOpen(t, api.Limits{Clients: 2, Cells: 0, Ops: 4}, []api.File{bad, c.file}, api.ErrLimits)
	}
}

// Files that the server can't be booted over: each of its errors, by its number.
func TestOpenBootErrors(t *testing.T) {
	lim := api.Limits{Clients: 2, Cells: 4, Ops: 2}
	for _, c := range []struct {
		b []byte
		e api.Errno
	}{
		{rawRecord(0, ""), api.ErrCut},
		{rawRecord(0, "\x09"), api.ErrKind},
		{append(fileOf(`1.1 ins 0 "a"`), rawRecord(1, "\x01")...), api.ErrCut},
		{fileOf(`3.1 ins 0 "a"`), api.ErrClient},
		{fileOf(`3.2 ins 0 "abcdef"`), api.ErrClient},
		{fileOf(`1.2 ins 0 "a"`), api.ErrSeq},
		{fileOf(`1.1 ins 0 "a"`, `1.1 ins 0 "a"`), api.ErrSeq},
		{fileOf(`1.1 ins 0 "a"`, `1.3 ins 0 "abcdef"`), api.ErrSeq},
		{fileOf(`1.1 ins 0 "a"`, `1.2 ins 0 "a"`, `1.3 ins 0 "abcdef"`), api.ErrOps},
		{fileOf(`1.1 ins 0 "abcde"`), api.ErrCells},
		{fileOf(`1.1 ins 0 "abc"`, `2.1 ins 0 "abcd"`, `1.2 ins 9 "ab"`), api.ErrCells},
		{fileOf(`1.1 ins 1 "a"`), api.ErrPlace},
		{fileOf(`1.1 ins 0 "a"`, `2.1 hide 0-2`), api.ErrPlace},
		{fileOf(`1.1 off 2.1`), api.ErrUnknown},
		{fileOf(`1.1 ins 0 "a"`, `2.1 off 1.1`, `2.2 on 2.1`), api.ErrTarget},
	} {
		if _, e := newPlain(lim, journalOf(c.b, 0)); e != c.e {
			t.Fatalf("the oracle: %x: %d, want %d", c.b, int(e), int(c.e))
		}
		for _, synced := range []int{0, len(c.b) / 2, len(c.b)} {
			mustNotOpen(t, lim, journalOf(c.b, synced), c.e)
			mustNotOpen(t, lim, append(journalOf(c.b, synced), api.File{Name: "another"}), c.e)
			mustNotOpen(t, api.Limits{Clients: 2, Cells: 4, Ops: 1025}, journalOf(c.b, synced), api.ErrLimits)
		}
	}
}

// A journal's limits are the room's: the same file opens in a room that is great enough.
func TestOpenLimits(t *testing.T) {
	b := fileOf(history...)
	openPair(t, roomOfThree, journalOf(b, len(b)))
	openPair(t, api.Limits{Clients: 3, Cells: 3, Ops: 3}, journalOf(b, 0))
	mustNotOpen(t, api.Limits{Clients: 2, Cells: 3, Ops: 3}, journalOf(b, len(b)), api.ErrClient)
	mustNotOpen(t, api.Limits{Clients: 3, Cells: 2, Ops: 3}, journalOf(b, len(b)), api.ErrCells)
	mustNotOpen(t, api.Limits{Clients: 3, Cells: 3, Ops: 2}, journalOf(b, len(b)), api.ErrOps)
}

// A journal cut anywhere, whatever of it is durable: the world has the commands whose records are whole, and its disk no more than these.
func TestOpenCut(t *testing.T) {
	whole := fileOf(history...)
	for n := range len(whole) + 1 {
		for _, synced := range []int{0, n / 2, n} {
			x := openPair(t, roomOfThree, journalOf(whole[:n], synced))
			k := 0
			for k < len(history) && len(fileOf(history[:k+1]...)) <= n {
				k++
			}
			good := len(fileOf(history[:k]...))
			if got, want := fileTexts(x.w.Files()), fileTexts(journalOf(whole[:good], good)); got != want {
				t.Fatalf("P7: Files of a journal cut at %d: %s, want %s", n, got, want)
			}
			ops, e := x.w.Ops(0)
			if got := lines(ops); e != api.OK || !slices.Equal(got, history[:k]) || x.w.Views()[0].Known != k {
				t.Fatalf("P7: a journal cut at %d: %q", n, got)
			}
		}
	}
}

// A journal with a bit turned anywhere: what stands ahead of it is left.
func TestOpenSpoilt(t *testing.T) {
	whole := fileOf(history...)
	for at := range whole {
		b := bytes.Clone(whole)
		b[at] ^= 1 << (at % 8)
		x := openPair(t, roomOfThree, journalOf(b, len(b)))
		k := 0
		for len(fileOf(history[:k+1]...)) <= at {
			k++
		}
		if got := len(x.w.Order()); got != k {
			t.Fatalf("P7: a journal spoilt at %d: %d commands, want %d", at, got, k)
		}
	}
}

// What an opened world shows, and who may join: a client that has made commands can't begin anew, whether the server runs or not.
func TestOpenJoin(t *testing.T) {
	b := fileOf(history[:4]...) // nothing of client 3
	x := openPair(t, roomOfThree, journalOf(b, 0))
	x.shows(0, "aXYbc", 0)
	if got := x.w.Order(); !slices.Equal(got, []api.ID{{1, 1}, {2, 1}, {1, 2}, {2, 2}}) {
		t.Fatalf("P17.3: Order %v", got)
	}
	for _, c := range []int{1, 2} {
		x.is(join(c), fails(api.ErrJoined))
		x.is(view(c), fails(api.ErrNotJoined))
		x.is(ins(c, 0, "x"), fails(api.ErrNotJoined))
	}
	x.is(join(0), fails(api.ErrNode))
	x.is(join(4), fails(api.ErrNode))
	x.is(join(3), ok)
	x.is(join(3), fails(api.ErrJoined))
	x.is(view(3), ok)
	x.is(off(3, 2, 1), fails(api.ErrUnknown))
	x.is(ins(3, 0, "!"), says(1, 1, `3.1 ins 0 "!"`))
	x.is(settle(), says(3, 0, ""))
	x.shows(3, "aXYbc!", 6)
	x.is(off(3, 2, 1), says(2, 1, "3.2 off 2.1"))
	x.all(tick(3), arm(1, 0))
	x.is(deliver(x.p.net[0].Number), comes(api.ErrStopped, 0, 3))
	x.is(boot(1, -1), fails(api.ErrPlace)) // it is down
	for c := 1; c <= 3; c++ {
		x.is(join(c), fails(api.ErrJoined))
	}
	x.do(settle())
	x.shows(3, "abc!", 1)
	x.is(join(1), fails(api.ErrJoined))
	// The same disk once more: now client 3 can't either.
	y := openPair(t, roomOfThree, x.w.Files())
	for c := 1; c <= 3; c++ {
		y.is(join(c), fails(api.ErrJoined))
	}
	y.shows(0, "abc!", 0)
	y.is(settle(), ok)
}

// A client whose commands were all lost may begin: nothing of it is written.
func TestOpenJoinLost(t *testing.T) {
	b := fileOf(history[:2]...)
	x := openPair(t, roomOfThree, journalOf(b[:len(b)-1], 3))
	x.is(join(1), fails(api.ErrJoined))
	x.is(join(2), ok)
	x.is(ins(2, 0, "k"), says(1, 1, `2.1 ins 0 "k"`))
	x.is(settle(), says(3, 0, ""))
	x.shows(0, "abck", 0)
}

// Other files stay, but for what a crash takes.
func TestOpenOtherFiles(t *testing.T) {
	b := fileOf(history[:2]...)
	files := []api.File{{Name: "zebra", Bytes: []byte("stripes"), Synced: 2}, {Name: "journal", Bytes: b, Synced: len(b)}, {Name: "empty"}, {Name: "a.b-c_1", Bytes: []byte("loose")}}
	x := openPair(t, roomOfThree, files)
	if got, want := fileTexts(x.w.Files()), fileTexts([]api.File{files[3], files[2], files[1], files[0]}); got != want {
		t.Fatalf("P17.1: Files %s, want %s", got, want)
	}
	x.all(join(3), ins(3, 0, "q"), tick(3), arm(1, 1), deliver(0))
	want := []api.File{{Name: "a.b-c_1", Bytes: []byte("l"), Synced: 1}, {Name: "journal", Bytes: append(b, 0xc7), Synced: len(b) + 1}, {Name: "zebra", Bytes: []byte("str"), Synced: 3}}
	if got := fileTexts(x.w.Files()); got != fileTexts(want) {
		t.Fatalf("P17.1: Files behind a crash %s, want %s", got, fileTexts(want))
	}
	x.is(boot(0, 0), says(2, 0, ""))
	x.do(settle())
}

// The disk has room for much more than a journal.
func TestOpenGreatFile(t *testing.T) {
	great := api.File{Name: "great", Bytes: make([]byte, 1<<26), Synced: 1 << 26}
	w, e := world.Open(room, []api.File{great})
	if e != api.OK {
		t.Fatalf("P17.1: Open: %d", int(e))
	}
	for _, s := range []api.Step{join(1), ins(1, 0, "ab"), settle()} {
		if a := w.Play(s); a.Code != api.OK {
			t.Fatalf("P17.1: %s: %+v", stepText(s), a)
		}
	}
	if got := w.Files(); len(got) != 2 || len(got[0].Bytes) != 1<<26 || len(got[1].Bytes) == 0 {
		t.Fatalf("P17.1: %d files", len(got))
	}
}

// What one world's disk holds makes a world like it, as far as the server knows.
func TestOpenAgain(t *testing.T) {
	x := first(t)
	x.all(deliver(3), del(2, 0, 1), tick(2), deliver(5), undo(1), tick(1), deliver(6))
	y := openPair(t, room, x.w.Files())
	if got := y.w.Order(); !slices.Equal(got, []api.ID{{1, 1}, {2, 1}, {1, 2}}) {
		t.Fatalf("P17.1: Order %v: what was written but not durable is on the disk too", got)
	}
	if len(x.w.Order()) != 1 || len(y.w.Flights()) > 0 || y.w.Views()[1].Up {
		t.Fatalf("P17.1: %v, %v, %v", x.w.Order(), y.w.Flights(), y.w.Views())
	}
	x.do(settle())
	y.shows(0, x.w.Views()[0].Text, 0)
}
