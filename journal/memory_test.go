package journal_test

import (
	"bytes"
	"slices"
	"testing"
	"unsafe"

	"redraft/journal"
)

// roomy: b with spare room behind it, which holds known bytes.
func roomy(b []byte) []byte {
	out := append(bytes.Clone(b), bytes.Repeat([]byte{0xa5}, 40)...)
	return out[:len(b)]
}

// untouched: what roomy made of b is still so, spare room too.
func untouched(t *testing.T, in, b []byte, what string) {
	t.Helper()
	whole := in[:len(b)+40]
	if !bytes.Equal(whole[:len(b)], b) || !bytes.Equal(whole[len(b):], bytes.Repeat([]byte{0xa5}, 40)) {
		t.Fatalf("P12.1: %s has changed what it was handed: %x", what, whole)
	}
}

// overwrite: all of a list's memory, spare room too, and what an append writes.
func overwrite(b []byte) {
	whole := b[:cap(b)]
	for i := range whole {
		whole[i] ^= 0xff
	}
	_ = append(b, 1, 2, 3)
}

// stretch: where a list lies in memory.
type stretch struct{ lo, hi uintptr }

func ofBytes(b []byte) stretch {
	lo := uintptr(unsafe.Pointer(unsafe.SliceData(b)))
	return stretch{lo, lo + uintptr(cap(b))}
}

func ofList(l [][]byte) stretch {
	lo := uintptr(unsafe.Pointer(unsafe.SliceData(l)))
	return stretch{lo, lo + uintptr(cap(l))*unsafe.Sizeof([]byte(nil))}
}

// apart: no two of these lists, their records or the bytes beside have a byte of memory in common.
func apart(t *testing.T, what string, beside []byte, lists ...[][]byte) {
	t.Helper()
	all := []stretch{ofBytes(beside)}
	for _, l := range lists {
		all = append(all, ofList(l))
		for _, r := range l {
			all = append(all, ofBytes(r))
		}
	}
	for i, a := range all {
		for _, b := range all[:i] {
			if a.lo < a.hi && b.lo < b.hi && a.lo < b.hi && b.lo < a.hi {
				t.Fatalf("P12.1: %s: two lists share memory", what)
			}
		}
	}
}

// spoil: all of an answer's records, and the list itself.
func spoil(list [][]byte) {
	for _, r := range list {
		overwrite(r)
	}
	for i := range list[:cap(list)] {
		list[:cap(list)][i] = []byte("spoilt")
	}
	_ = append(list, []byte("appended"))
}

// Records that were handed in are written over and appended to afterwards.
func TestP12_1HandedIn(t *testing.T) {
	d := made(t, wide)
	j := mustOpen(t, d, 0)
	var want []string
	for _, r := range several() {
		in := roomy([]byte(r))
		must(t, j.Append(in))
		untouched(t, in, []byte(r), "Append")
		overwrite(in)
		want = append(want, r)
		list, err := j.Records(0, len(want))
		if err != nil || !slices.Equal(strs(list), want) {
			t.Fatalf("P12.1: %q, %v, want %q", list, err, want)
		}
	}
	must(t, j.Sync())
	mustOpen(t, d, 0, want...)
	in := roomy(make([]byte, greatest+1))
	if j.Append(in) == nil {
		t.Fatal("P12.6: too great")
	}
	untouched(t, in, make([]byte, greatest+1), "Append")
}

// A name in memory that is written over afterwards.
func TestP12_1Name(t *testing.T) {
	d := made(t, wide)
	name := []byte("name.of-it")
	text := unsafe.String(unsafe.SliceData(name), len(name))
	j, _, _, err := journal.Open(d, text)
	must(t, err)
	if text != "name.of-it" {
		t.Fatal("P12.1: Open has changed the name")
	}
	copy(name, "##########")
	must(t, j.Append([]byte("a")))
	must(t, j.Sync())
	if f := d.Files(); len(f) != 1 || f[0].Name != "name.of-it" {
		t.Fatalf("P12.1: %v", f)
	}
}

func TestP12_1Parse(t *testing.T) {
	b := append(run(several()...), "tail"...)
	in := roomy(b)
	one, _, _ := journal.Parse(in)
	two, _, _ := journal.Parse(in)
	untouched(t, in, b, "Parse")
	apart(t, "Parse", in, one, two)
	spoil(one)
	untouched(t, in, b, "a caller of Parse")
	if !slices.Equal(strs(two), several()) {
		t.Fatalf("P12.1: %q", two)
	}
	overwrite(in)
	if !slices.Equal(strs(two), several()) {
		t.Fatalf("P12.1: %q", two)
	}
}

// What Open and Records hand out is the caller's.
func TestP12_1HandedOut(t *testing.T) {
	d := loaded(t, wide, run(several()...), 0)
	j, opened, _, err := journal.Open(d, log)
	must(t, err)
	n := len(several())
	one, err := j.Records(0, n)
	must(t, err)
	two, err := j.Records(0, n)
	must(t, err)
	apart(t, "Open and Records", nil, opened, one, two)
	spoil(opened)
	spoil(one)
	if !slices.Equal(strs(two), several()) {
		t.Fatalf("P12.1: %q", two)
	}
	three, err := j.Records(0, n)
	if err != nil || !slices.Equal(strs(three), several()) {
		t.Fatalf("P12.1: %q, %v", three, err)
	}
	must(t, j.Append([]byte("more")))
	must(t, j.Sync())
	mustOpen(t, d, 0, append(several(), "more")...)
}

// One record of an answer appended to: the others stay.
func TestP12_1Appended(t *testing.T) {
	d := loaded(t, wide, run(several()...), 0)
	j, opened, _, err := journal.Open(d, log)
	must(t, err)
	read, err := j.Records(0, len(several()))
	must(t, err)
	taken, _, _ := journal.Parse(run(several()...))
	for _, list := range [][][]byte{opened, read, taken} {
		for i := range list {
			_ = append(list[i], bytes.Repeat([]byte{'!'}, 64)...)
			if cap(list[i]) > len(list[i]) {
				_ = append(list[i], '!')
			}
		}
		if !slices.Equal(strs(list), several()) {
			t.Fatalf("P12.1: %q", list)
		}
	}
}

// Journals of two disks have nothing to do with one another.
func TestP12_1Apart(t *testing.T) {
	d, e := made(t, wide), made(t, wide)
	j, k := mustOpen(t, d, 0), mustOpen(t, e, 0)
	must(t, j.Append([]byte("a")))
	must(t, k.Append([]byte("b")))
	must(t, k.Sync())
	d.Crash(0)
	if j.Sync() == nil || j.Err() == nil || k.Err() != nil {
		t.Fatal("P12.1: two disks")
	}
	must(t, k.Append([]byte("c")))
	mustOpen(t, e, 0, "b", "c")
}
