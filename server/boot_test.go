package server_test

import (
	"testing"

	"redraft/api"
	"redraft/disk"
	"redraft/msg"
	"redraft/server"
)

// fileOf: the bytes of a journal of these records.
func fileOf(t *testing.T, records ...[]byte) []byte {
	t.Helper()
	for _, f := range written(t, records...).Files() {
		return f.Bytes
	}
	return nil
}

// onRecords: a pair without servers, over a journal of these records.
func onRecords(t *testing.T, records ...[]byte) *pair {
	t.Helper()
	x := newPair(t, wide)
	x.all(fileAppend(fileOf(t, records...)), fileSync())
	return x
}

func TestP14_2NoDisk(t *testing.T) {
	for _, lim := range []api.Limits{room, {}, {Clients: 9, Cells: -1, Ops: 1}} {
		s, err := server.Boot(nil, lim)
		mustFail(t, err, "Boot", 0, api.ErrHandle)
		if s != nil {
			t.Fatal("P14.2: a server without a disk")
		}
	}
}

// limitsWith: limits of a room but for the one number n, at place i.
func limitsWith(i, n int) api.Limits {
	x := [3]int{3, 100, 100}
	x[i] = n
	return api.Limits{Clients: x[0], Cells: x[1], Ops: x[2]}
}

func TestP14_2Limits(t *testing.T) {
	down := made(t, wide)
	down.Crash(0)
	for i, most := range []int{8, 4096, 1024} {
		for _, n := range []int{1, 2, most - 1, most} {
			x := newPair(t, wide)
			x.is(bootedAs(limitsWith(i, n)), api.OK)
			x.holds(0, 0, "")
			x.knows()
		}
		for _, n := range append([]int{0, -1, most + 1}, far...) {
			x := newPair(t, wide)
			x.is(bootedAs(limitsWith(i, n)), api.ErrLimits)
			_, err := server.Boot(down, limitsWith(i, n)) // ahead of what the journal says
			mustFail(t, err, "Boot", 0, api.ErrLimits)
		}
	}
	x := newPair(t, wide)
	x.is(bootedAs(api.Limits{}), api.ErrLimits)
	x.is(bootedAs(api.Limits{Clients: 8, Cells: 4096, Ops: 1024}), api.OK)
	x.is(bootedAs(api.Limits{Clients: 1, Cells: 1, Ops: 1}), api.OK)
}

// What journal.Open answers stands within the Fault as it is.
func TestP14_2Journal(t *testing.T) {
	x := onRecords(t, allCoded(`1.1 ins 0 "a"`, `1.2 ins 0 "b"`)...)
	x.do(crash(0))
	if got := x.do(booted()).trouble; got != "Boot at 0: Open at 0: redraft: error 110" {
		t.Fatalf("P14.2: of a disk that is down: %q", got)
	}
	x.do(up())
	x.is(booted(), api.OK)
	// Loose bytes are synced, and a torn tail is cut: armed, each of the two crashes.
	for _, c := range []struct{ steps, keep int }{{1, 0}, {1, 5}, {1, 99}, {2, 0}, {2, 99}} {
		x := newPair(t, wide)
		b := fileOf(t, allCoded(`1.1 ins 0 "a"`, `1.2 ins 0 "b"`)...)
		x.all(fileAppend(append(b, "torn"...)), arm(c.steps, c.keep))
		if got := x.do(booted()).trouble; got != "Boot at 0: Open at 2: redraft: error 110" {
			t.Fatalf("P14.2: armed with %v: %q", c, got)
		}
		if len(x.ss) > 0 {
			t.Fatal("P14.2: a server of a disk that has crashed")
		}
		x.all(up(), booted(), booted())
	}
}

// Each of the six looks alone, at the record with the number at.
func TestP14_2Records(t *testing.T) {
	lim := api.Limits{Clients: 2, Cells: 6, Ops: 3}
	for _, c := range []struct {
		lines []string
		at    int
		e     api.Errno
	}{
		{nil, 0, api.OK},
		{[]string{`1.1 ins 0 "a"`, `2.1 ins 1 "b"`, `1.2 off 2.1`, `2.2 hide 0-2`, `1.3 on 2.1`, `2.3 on 2.2`}, 0, api.OK},
		{[]string{`3.1 ins 0 "a"`}, 0, api.ErrClient},
		{[]string{`1.1 ins 0 "a"`, `8.1 ins 0 "a"`}, 1, api.ErrClient},
		{[]string{`1.2 ins 0 "a"`}, 0, api.ErrSeq},
		{[]string{`1.1 ins 0 "a"`, `1.1 ins 0 "a"`}, 1, api.ErrSeq},
		{[]string{`1.1 ins 0 "a"`, `1.3 ins 0 "a"`}, 1, api.ErrSeq},
		{[]string{`1.1 ins 0 "a"`, `2.2 ins 0 "a"`}, 1, api.ErrSeq},
		{[]string{`1.1 ins 0 "a"`, `1.2 ins 0 "a"`, `1.1 ins 0 "a"`}, 2, api.ErrSeq},
		{[]string{`1.1 ins 0 "a"`, `1.2 hide 0-1`, `1.3 off 1.2`}, 0, api.OK},
		{[]string{`1.1 ins 0 "a"`, `1.2 hide 0-1`, `1.3 off 1.2`, `1.4 ins 0 "b"`}, 3, api.ErrOps},
		{[]string{`1.1 ins 0 "abcdef"`, `2.1 ins 0 "abcdef"`}, 0, api.OK},
		{[]string{`1.1 ins 0 "abcdefg"`}, 0, api.ErrCells},
		{[]string{`1.1 ins 0 "abcd"`, `2.1 ins 0 "abcd"`, `1.2 ins 0 "xyz"`}, 2, api.ErrCells},
		{[]string{`1.1 ins 1 "a"`}, 0, api.ErrPlace},
		{[]string{`1.1 ins 0 "a"`, `2.1 hide 1-2`}, 1, api.ErrPlace},
		{[]string{`1.1 ins 0 "a"`, `2.1 off 1.2`}, 1, api.ErrUnknown},
		{[]string{`1.1 ins 0 "a"`, `1.2 off 1.1`, `2.1 on 1.2`}, 2, api.ErrTarget},
		// Two at once: of one record the first look, of two records the first one.
		{[]string{`3.2 ins 0 "a"`}, 0, api.ErrClient},
		{[]string{`3.4 ins 0 "a"`}, 0, api.ErrClient},
		{[]string{`3.1 ins 0 "abcdefg"`}, 0, api.ErrClient},
		{[]string{`3.1 ins 1 "a"`}, 0, api.ErrClient},
		{[]string{`1.4 ins 0 "a"`}, 0, api.ErrSeq},
		{[]string{`1.2 ins 0 "abcdefg"`}, 0, api.ErrSeq},
		{[]string{`1.2 ins 7 "a"`}, 0, api.ErrSeq},
		{[]string{`1.1 ins 0 "a"`, `1.1 ins 9 "a"`}, 1, api.ErrSeq},
		{[]string{`1.1 ins 0 "a"`, `1.2 hide 0-1`, `1.3 off 1.2`, `1.4 ins 0 "bcdefg"`}, 3, api.ErrOps},
		{[]string{`1.1 ins 0 "a"`, `1.2 hide 0-1`, `1.3 off 1.2`, `1.4 ins 9 "b"`}, 3, api.ErrOps},
		{[]string{`1.1 ins 0 "a"`, `1.2 hide 0-1`, `1.3 off 1.2`, `1.4 off 1.3`}, 3, api.ErrOps},
		{[]string{`1.1 ins 1 "abcdefg"`}, 0, api.ErrCells},
		{[]string{`1.1 ins 1 "a"`, `3.1 ins 0 "a"`}, 0, api.ErrPlace},
		{[]string{`1.1 ins 0 "a"`, `2.1 off 1.9`, `3.1 ins 0 "a"`}, 1, api.ErrUnknown},
	} {
		x := onRecords(t, allCoded(c.lines...)...)
		if got := x.do(bootedAs(lim)).trouble; got != trouble("Boot", c.at, c.e) {
			t.Fatalf("P14.2: %q: %q, want %q", c.lines, got, trouble("Boot", c.at, c.e))
		}
	}
}

// Records that are no commands: DecodeOp's error, at the record's number, ahead of all looks of this record and of later ones.
func TestP14_2NoCommand(t *testing.T) {
	good := allCoded(`1.1 ins 0 "a"`)
	show := coded(`1.2 hide 0-1`)
	show[0] = 3
	strange := coded(`3.7 ins 9 "a"`)
	for _, b := range [][]byte{{}, {0}, show, {1, 9, 1}, {1, 1, 1, 0, 1}, append(coded(`1.2 hide 0-1`), 0), append(strange, 0), strange[:len(strange)-1]} {
		_, _, e := msg.DecodeOp(b)
		if e == api.OK {
			t.Fatalf("%x is a command", b)
		}
		for _, c := range []struct {
			records [][]byte
			at      int
		}{{[][]byte{b}, 0}, {[][]byte{b, good[0]}, 0}, {[][]byte{good[0], b}, 1}, {[][]byte{good[0], b, coded(`3.1 ins 0 "a"`)}, 1}} {
			x := onRecords(t, c.records...)
			if got := x.do(booted()).trouble; got != trouble("Boot", c.at, e) {
				t.Fatalf("P14.2: %x: %q, want %q", c.records, got, trouble("Boot", c.at, e))
			}
		}
	}
}

// What is booted: all records are durable, nobody is known, and what the journal has mended stays so, with an error too.
func TestP14_2Booted(t *testing.T) {
	good := fileOf(t, allCoded(`1.1 ins 0 "abc"`, `2.1 hide 1-2`, `3.1 off 2.1`)...)
	x := newPair(t, wide)
	x.do(fileAppend(append(good, "torn"...)))
	x.is(booted(), api.OK)
	x.holds(3, 3, "abc")
	x.knows()
	sizeIs(t, x.d, len(good), len(good))
	x.tells("")
	x.is(handle(hello(1, 3)), api.OK)

	bad := fileOf(t, allCoded(`1.1 ins 0 "abc"`, `2.2 hide 1-2`)...)
	x = newPair(t, wide)
	x.do(fileAppend(append(bad, "torn"...)))
	if got := x.do(booted()).trouble; got != trouble("Boot", 1, api.ErrSeq) {
		t.Fatalf("P14.2: %q", got)
	}
	sizeIs(t, x.d, len(bad), len(bad))
}

// sizeIs: how many bytes the journal has, and how many are durable.
func sizeIs(t *testing.T, d *disk.Disk, size, synced int) {
	t.Helper()
	n, m, e := d.Size("journal")
	if e != api.OK || n != size || m != synced {
		t.Fatalf("the journal has %d bytes, %d durable (%v), want %d, %d", n, m, e, size, synced)
	}
}

// Nothing else on the disk is looked at.
func TestP14_2OtherFiles(t *testing.T) {
	d := written(t, allCoded(`1.1 ins 0 "a"`)...)
	d.Append("journal2", []byte("x"))
	d.Append("journa", []byte("y"))
	before := show(d)
	isAt(t, boot(t, d, room), 1, 1, "a")
	if show(d) != before {
		t.Fatal("P14.7: Boot changes other files")
	}
}
