package journal_test

import (
	"bytes"
	"slices"
	"strings"
	"testing"

	"redraft/api"
	"redraft/disk"
	"redraft/journal"
)

// changes: how many changing calls of its disk a call makes. It is called again and again, each time on a new disk that crashes one changing call later, till it meets no crash.
func changes(t *testing.T, build func() *disk.Disk, call func(*disk.Disk)) int {
	t.Helper()
	for n := 0; ; n++ {
		d := build()
		if e := d.Arm(n+1, 0); e != api.OK {
			t.Fatalf("chapter 11: Arm: %d", e)
		}
		call(d)
		if !d.Down() {
			return n
		}
		if n > 9 {
			t.Fatal("P12.1: a call changes the disk without end")
		}
	}
}

func open(d *disk.Disk) { journal.Open(d, log) }

// Open on no file, an empty one, whole ones, torn ones, each with none, some and all of its bytes durable.
func TestP12_3Open(t *testing.T) {
	x := newPair(t, wide)
	x.found(0)
	x.holds(-1, 0)
	for _, c := range []struct {
		b    []byte
		cut  int
		want []string
	}{
		{nil, 0, nil},
		{run("a"), 0, []string{"a"}},
		{run(several()...), 0, several()},
		{run("a", "bc")[:34], 17, []string{"a"}},
		{run("a", "bc")[:18], 1, []string{"a"}},
		{run("a", "bc")[:16], 16, nil},
		{[]byte("strange"), 7, nil},
		{slices.Concat(run("a"), run("a")), 17, []string{"a"}},
		{slices.Concat(run("a"), framed(2, "")), 16, []string{"a"}},
		{slices.Concat(run("a"), frameOf(nil)), 12, []string{"a"}},
		{slices.Concat(frameOf([]byte{0, 0}), run("a")), 31, nil},
	} {
		for hard := range len(c.b) + 1 {
			x := pairOf(t, c.b, hard)
			x.found(c.cut, c.want...)
			good := len(c.b) - c.cut
			x.holds(good, good)
			again := show(x.d)
			x.found(0, c.want...)
			if show(x.d) != again {
				t.Fatalf("P12.10: a second Open changes the disk")
			}
			n := changes(t, func() *disk.Disk { return loaded(t, wide, c.b, hard) }, open)
			want := 0
			if c.cut > 0 {
				want++
			}
			if hard < good {
				want++
			}
			if n != want {
				t.Fatalf("P12.3: Open of %x, %d durable, changes the disk %d times, want %d", c.b, hard, n, want)
			}
			x.is(appended(0, "more"), 0, api.OK)
			x.is(synced(0), 0, api.OK)
			x.found(0, append(slices.Clone(c.want), "more")...)
		}
	}
	if n := changes(t, func() *disk.Disk { return made(t, wide) }, open); n != 0 {
		t.Errorf("P12.3: Open of no file changes the disk %d times", n)
	}
}

// Other files of the disk are none of its business.
func TestP12_3Others(t *testing.T) {
	files := []api.File{{Name: "log", Bytes: run("a"), Synced: 3}, {Name: "log2", Bytes: []byte("loose"), Synced: 0}, {Name: "lo", Bytes: run("x", "y"), Synced: 5}}
	d, _ := disk.Load(wide, files)
	j := mustOpen(t, d, 0, "a")
	must(t, j.Append([]byte("b")))
	must(t, j.Sync())
	for _, f := range d.Files() {
		i := slices.IndexFunc(files, func(g api.File) bool { return g.Name == f.Name })
		if f.Name != log && (!bytes.Equal(f.Bytes, files[i].Bytes) || f.Synced != files[i].Synced) {
			t.Errorf("P12.1: file %s has changed", f.Name)
		}
	}
	k, list, cut, err := journal.Open(d, "lo")
	if err != nil || cut != 0 || !slices.Equal(strs(list), []string{"x", "y"}) {
		t.Fatalf("P12.3: %q, %d, %v", list, cut, err)
	}
	must(t, k.Append([]byte("z")))
	must(t, j.Append([]byte("c")))
	mustOpen(t, d, 0, "a", "b", "c")
}

// Each error of Open, alone and with what is named behind it.
func TestP12_3Errors(t *testing.T) {
	fails := func(d *disk.Disk, name string, at int, e api.Errno) {
		t.Helper()
		j, list, cut, err := journal.Open(d, name)
		if j != nil || len(list) != 0 || cut != 0 {
			t.Fatalf("P12.1: beside an error: %v, %q, %d", j, list, cut)
		}
		mustFail(t, err, "Open", at, e)
	}
	fails(nil, log, 0, api.ErrHandle)
	fails(nil, "NO NAME", 0, api.ErrHandle)
	torn := slices.Concat(run("a", "b"), []byte("torn"))
	for _, name := range []string{"", "LOG", "log ", "l/g", strings.Repeat("l", 33), "\xff"} {
		fails(loaded(t, wide, torn, 0), name, 0, api.ErrName)
	}
	d := loaded(t, wide, torn, len(torn))
	d.Crash(0)
	fails(d, log, 0, api.ErrDown)
	fails(d, "LOG", 0, api.ErrDown)
	fails(d, "none", 0, api.ErrDown)
	fileIs(t, d, len(torn), len(torn))
	d.Up()
	d.Arm(1, 0)
	fails(d, log, 2, api.ErrDown) // in the cut
	fileIs(t, d, len(torn), len(torn))
	d.Up()
	mustOpen(t, d, 4, "a", "b")
	d = loaded(t, wide, torn, 17)
	d.Arm(2, 3)
	fails(d, log, 2, api.ErrDown) // in the sync, behind the cut
	fileIs(t, d, 20, 20)
	d.Up()
	mustOpen(t, d, 3, "a")
	d = loaded(t, wide, []byte("no record at all"), 0)
	d.Arm(1, 5)
	fails(d, log, 0, api.ErrDown)
	fileIs(t, d, 5, 5)
}

// A file on a disk without room: Open needs none.
func TestP12_3NoRoom(t *testing.T) {
	b := slices.Concat(run("a"), []byte{1})
	d := loaded(t, len(b), b, 0)
	j := mustOpen(t, d, 1, "a")
	mustFail(t, j.Append(nil), "Append", 1, api.ErrFull)
	fileIs(t, d, 17, 17)
	must(t, j.Sync())
	mustOpen(t, d, 0, "a")
}

// A crash in each changing call of Open, at every length of the file, with some of the numbers of durable bytes and of bytes that stay (0 and the next few among them).
func TestP12_10Crash(t *testing.T) {
	list := []string{"", "abc", "\xc7\x9d", "last"}
	whole := run(list...)
	for _, tail := range []string{"", "x", "\xc7\x9d\x00\x00", string(framed(4, "torn")[:18]), string(framed(0, "doubled"))} {
		b := slices.Concat(whole, []byte(tail))
		for size := range len(b) + 1 {
			for synced := 0; synced <= size; synced += 1 + synced%5 {
				for keep := 0; keep <= size-synced+1; keep += 1 + keep%4 {
					crashedOpen(t, b[:size], synced, keep)
				}
			}
		}
	}
}

// crashedOpen: P12.10 of one file and one number of bytes that stay, at each changing call of Open.
func crashedOpen(t *testing.T, b []byte, synced, keep int) {
	t.Helper()
	would, _, _ := recordsOf(b)
	least, _, _ := recordsOf(b[:synced])
	for n := 1; ; n++ {
		d := loaded(t, wide, b, synced)
		d.Arm(n, keep)
		_, _, _, err := journal.Open(d, log)
		if err == nil {
			return
		}
		mustFail(t, err, "Open", len(would), api.ErrDown)
		d.Up()
		_, list, _, err := journal.Open(d, log)
		must(t, err)
		got := strs(list)
		if len(got) > len(would) || len(got) < len(least) || !slices.Equal(got, would[:len(got)]) {
			t.Fatalf("P12.10: file %x, %d durable, %d stay, crash at change %d: Open = %q, want %q or fewer, %d at least", b, synced, keep, n, got, would, len(least))
		}
		d.Arm(1, 0) // a second Open changes nothing: else it would crash
		mustOpen(t, d, 0, got...)
	}
}
