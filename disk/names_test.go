package disk_test

import (
	"strings"
	"testing"

	"redraft/api"
	"redraft/disk"
)

// good: the bytes that may stand in a name, written out.
const good = "abcdefghijklmnopqrstuvwxyz0123456789.-_"

// holdName: every call that takes a name takes or refuses this one.
func holdName(t *testing.T, name string, right bool) {
	t.Helper()
	want, wantFile := api.OK, api.ErrFile
	if !right {
		want, wantFile = api.ErrName, api.ErrName
	}
	for _, c := range []call{sync(name), cut(name, 0), remove(name), read(name, 0, 0), size(name), turn(name, 0, 1)} {
		x := newPair(t, 9)
		if got := x.do(c); got != (answer{e: wantFile}) {
			t.Fatalf("'A name', P11.1: %v = %v, want error %d", c, got, wantFile)
		}
	}
	x := newPair(t, 9)
	if got := x.do(put(name, "z")); got.e != want {
		t.Fatalf("'A name', P11.1: Append to %q = %v, want error %d", name, got, want)
	}
	x.all(size(name), read(name, 0, 1), turn(name, 0, 1), sync(name), cut(name, 1), remove(name))
	d, e := disk.Load(9, []api.File{{Name: name, Bytes: []byte("z"), Synced: 1}})
	if e != want || (d != nil) != right {
		t.Fatalf("'A name', P11.17: Load of a file %q = %v, %d, want %d", name, d != nil, e, want)
	}
}

// Each byte alone, first, last and in the middle.
func TestNamesEachByte(t *testing.T) {
	for c := range 256 {
		s := string([]byte{byte(c)})
		right := strings.Contains(good, s)
		for _, name := range []string{s, s + "a", "a" + s, "0-" + s + "_z", strings.Repeat("q", 31) + s, s + strings.Repeat("q", 31)} {
			holdName(t, name, right)
		}
	}
}

func TestNamesLength(t *testing.T) {
	for n := range 70 {
		for _, c := range []string{"a", "z", "0", "9", ".", "-", "_"} {
			holdName(t, strings.Repeat(c, n), n >= 1 && n <= 32)
		}
	}
	holdName(t, good[:32], true)
	holdName(t, good[len(good)-32:], true)
	holdName(t, good, false)
	holdName(t, strings.Repeat("a", 1<<16), false)
}

// Runes of several bytes, and what is no text at all.
func TestNamesOther(t *testing.T) {
	for _, name := range []string{"\u00e9", "a\u0301", "\u017f", "\U0001f600", "a\xff", "a b", "a/b", "..\\", "a\n", "\na", "a\x00", "\x00", "Aa", "aZ"} {
		holdName(t, name, false)
	}
	for _, name := range []string{".", "..", "-", "_", "--", "a.b", "0", "journal-1.log_"} {
		holdName(t, name, true)
	}
}

// Names are compared byte by byte; none is another's part.
func TestNamesApart(t *testing.T) {
	names := []string{"a", "aa", "ab", "b", "a.", "a-", "a_", "0", "00", "z", strings.Repeat("a", 31), strings.Repeat("a", 32)}
	x := newPair(t, 999)
	for i, n := range names {
		x.do(put(n, strings.Repeat("x", i+1)))
	}
	for i, n := range names {
		if got := x.do(size(n)); got.n != i+1 {
			t.Fatalf("'A name': Size(%q) = %v, want %d", n, got, i+1)
		}
		x.do(remove(n))
	}
}
