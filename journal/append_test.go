package journal_test

import (
	"bytes"
	"slices"
	"strings"
	"testing"

	"redraft/api"
	"redraft/disk"
	"redraft/journal"
)

// Records of all sizes near the edges; one that is too great changes nothing and leaves the journal open.
func TestP12_6Sizes(t *testing.T) {
	x := newPair(t, wide)
	x.all(opened())
	size := 0
	var want []string
	for i, n := range []int{0, 1, 2, 3, 4, 5, 255, 256, 65536, greatest - 1, greatest} {
		r := strings.Repeat(string(rune('a'+i)), n)
		x.is(appended(0, r), 0, api.OK)
		want = append(want, r)
		size += 16 + n
		x.holds(size, 0)
		x.knows(len(want), 0)
	}
	for _, n := range []int{greatest + 1, greatest + 2, greatest + 4, greatest + 5, 2 * greatest, 1 << 21} {
		x.is(appended(0, strings.Repeat("n", n)), len(want), api.ErrBig)
		x.holds(size, 0)
		x.knows(len(want), 0)
	}
	x.is(appended(0, "goes on"), 0, api.OK)
	x.is(synced(0), 0, api.OK)
	x.found(0, append(want, "goes on")...)
}

// A disk whose room ends in each byte of a frame, with nothing, something and all ahead of it durable.
func TestP12_6Full(t *testing.T) {
	for _, ahead := range [][]string{nil, {""}, {"a", "bc"}} {
		size := len(run(ahead...))
		for spare := range 20 {
			for _, sync := range []bool{false, true} {
				x := newPair(t, size+spare)
				x.all(opened())
				for _, r := range ahead {
					x.is(appended(0, r), 0, api.OK)
				}
				hard := 0
				if sync {
					x.all(synced(0))
					hard = size
				}
				for range 3 { // it stays so, however often it is tried
					x.is(appended(0, "abcd"), len(ahead), api.ErrFull)
					x.holds(size, hard)
				}
				want := slices.Clone(ahead)
				if spare >= 16 {
					x.is(appended(0, strings.Repeat("s", spare-16)), 0, api.OK)
					want = append(want, strings.Repeat("s", spare-16))
				}
				x.is(synced(0), 0, api.OK)
				x.found(0, want...)
			}
		}
	}
}

// A full disk without room for a byte: a file that was not there is there now, without bytes, and the journal goes on when there is room.
func TestP12_6FullAndFreed(t *testing.T) {
	d := made(t, 20)
	d.Append("other", make([]byte, 20))
	j := mustOpen(t, d, 0)
	mustFail(t, j.Append(nil), "Append", 0, api.ErrFull)
	fileIs(t, d, 0, 0)
	must(t, j.Sync())
	d.Cut("other", 3)
	mustFail(t, j.Append([]byte("ab")), "Append", 0, api.ErrFull)
	fileIs(t, d, 0, 0)
	must(t, j.Append([]byte("a")))
	fileIs(t, d, 17, 0)
	must(t, j.Sync())
	mustOpen(t, d, 0, "a")
}

// Armed at the Append and at the Cut that follows it, on a full disk and on one with room.
func TestP12_6Armed(t *testing.T) {
	for spare := range 20 {
		for steps := 1; steps <= 3; steps++ {
			for keep := range 40 {
				x := newPair(t, 34+spare)
				x.all(opened(), appended(0, "a"), synced(0), appended(0, "b"), arm(steps, keep))
				got := x.do(appended(0, "cd")).trouble // 18 bytes
				calls := 1
				if 0 < spare && spare < 18 {
					calls = 2
				}
				want := trouble{"Append", 2, api.ErrDown}
				if steps > calls && spare >= 18 {
					want = trouble{}
				} else if steps > calls {
					want.e = api.ErrFull
				}
				if got != want {
					t.Fatalf("P12.6: %v: %v, want %v", x.steps, got, want)
				}
				x.all(up())
				if steps <= calls {
					x.is(appended(0, ""), 2, api.ErrClosed)
					x.is(synced(0), 1, api.ErrClosed)
				} else {
					x.do(synced(0))
				}
				x.do(opened())
			}
		}
	}
}

// How often each call changes the disk.
func TestP12_1Changes(t *testing.T) {
	// begin: "a" durable, "b" loose, so much room behind them.
	begin := func(spare int) (*disk.Disk, *journal.Journal) {
		d := made(t, 34+spare)
		j := mustOpen(t, d, 0)
		must(t, j.Append([]byte("a")))
		must(t, j.Sync())
		must(t, j.Append([]byte("b")))
		return d, j
	}
	add := func(n int) func(*journal.Journal) {
		return func(j *journal.Journal) { j.Append(make([]byte, n)) }
	}
	sync := func(j *journal.Journal) { j.Sync() }
	for _, c := range []struct {
		what  string
		spare int
		first func(*disk.Disk, *journal.Journal)
		call  func(*journal.Journal)
		want  int
	}{
		{"Append", wide, nil, add(1), 1},
		{"Append that just fits", 17, nil, add(1), 1},
		{"Append, full within the frame", 16, nil, add(1), 2},
		{"Append, full within the head", 1, nil, add(1), 2},
		{"Append, full between two frames", 0, nil, add(1), 1},
		{"Append, too great", wide, nil, add(greatest + 1), 0},
		{"Append, closed", wide, func(d *disk.Disk, j *journal.Journal) { d.Cut(log, 3); j.Sync() }, add(1), 0},
		{"Append, another length", wide, func(d *disk.Disk, j *journal.Journal) { d.Cut(log, 33) }, add(1), 0},
		{"Append, no file", wide, func(d *disk.Disk, j *journal.Journal) { d.Remove(log) }, add(1), 0},
		{"Sync", wide, nil, sync, 1},
		{"Sync, all durable", wide, func(d *disk.Disk, j *journal.Journal) { j.Sync() }, sync, 0},
		{"Sync, all durable by another's sync", wide, func(d *disk.Disk, j *journal.Journal) { d.Sync(log) }, sync, 1},
		{"Sync, closed", wide, func(d *disk.Disk, j *journal.Journal) { d.Cut(log, 3); j.Sync() }, sync, 0},
		{"Sync, another length", wide, func(d *disk.Disk, j *journal.Journal) { d.Append(log, []byte{0}) }, sync, 0},
		{"Records", wide, nil, func(j *journal.Journal) { j.Records(0, 2) }, 0},
		{"Records of a spoilt file", wide, func(d *disk.Disk, j *journal.Journal) { d.Turn(log, 0, 1) }, func(j *journal.Journal) { j.Records(0, 2) }, 0},
		{"Len, Durable, Err, Parse", wide, nil, func(j *journal.Journal) { j.Len(); j.Durable(); j.Err(); journal.Parse(run("a")) }, 0},
	} {
		var j *journal.Journal
		got := changes(t, func() *disk.Disk {
			d, k := begin(c.spare)
			if c.first != nil {
				c.first(d, k)
			}
			j = k
			return d
		}, func(*disk.Disk) { c.call(j) })
		if got != c.want {
			t.Errorf("P12.1: %s: %d changing calls of the disk, want %d", c.what, got, c.want)
		}
	}
}

// What an error leaves: the file, Len and Durable as they were.
func TestP12_6Leaves(t *testing.T) {
	d := made(t, 50)
	j := mustOpen(t, d, 0)
	must(t, j.Append([]byte("a")))
	must(t, j.Sync())
	must(t, j.Append([]byte("b")))
	ahead := d.Files()[0]
	for _, r := range [][]byte{make([]byte, 1), make([]byte, 100), make([]byte, greatest), make([]byte, greatest+1)} {
		if err := j.Append(r); err == nil {
			t.Fatal("P12.6: there is no room")
		}
		f := d.Files()[0]
		if !bytes.Equal(f.Bytes, ahead.Bytes) || f.Synced != ahead.Synced || j.Len() != 2 || j.Durable() != 1 || j.Err() != nil {
			t.Fatalf("P12.6: behind an error: %x, Len %d, Durable %d, Err %v", f.Bytes, j.Len(), j.Durable(), j.Err())
		}
	}
}

// A sync makes durable all that was appended, at one stroke; a second one asks nothing.
func TestP12_7Sync(t *testing.T) {
	x := newPair(t, wide)
	x.all(opened())
	x.is(synced(0), 0, api.OK)
	x.holds(-1, 0)
	size, n := 0, 0
	for group := range 5 {
		for range group {
			x.is(appended(0, "abc"), 0, api.OK)
			size, n = size+19, n+1
		}
		x.knows(n, n-group)
		x.is(synced(0), 0, api.OK)
		if n > 0 {
			x.holds(size, size)
		}
		x.knows(n, n)
		x.all(arm(1, 0))
		x.is(synced(0), 0, api.OK) // armed: a changing call would crash
		x.all(arm(0, 0))
	}
	x.all(appended(0, "x"), arm(1, 5))
	x.is(synced(0), n, api.ErrDown)
	x.knows(n+1, n)
	x.all(up())
	x.is(synced(0), n, api.ErrClosed)
	x.found(5, slices.Repeat([]string{"abc"}, n)...)
}
