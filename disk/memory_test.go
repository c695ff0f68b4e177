package disk_test

import (
	"bytes"
	"math/rand"
	"strings"
	"testing"
	"unsafe"

	"redraft/api"
	"redraft/disk"
)

// roomy: b with spare room behind it, which holds known bytes.
func roomy(b []byte) []byte {
	out := append(bytes.Clone(b), bytes.Repeat([]byte{0xa5}, 40)...)
	return out[:len(b)]
}

// untouched: what roomy made of b is still so, spare room too.
func untouched(t *testing.T, in, b []byte, what string) {
	t.Helper()
	whole := in[:len(b)+40]
	if !bytes.Equal(whole[:len(b)], b) || !bytes.Equal(whole[len(b):], bytes.Repeat([]byte{0xa5}, 40)) {
		t.Fatalf("P11.1: %s has changed what it was handed: %x", what, whole)
	}
}

// stretch: where a list or text lies in memory.
type stretch struct{ lo, hi uintptr }

func ofBytes(b []byte) stretch {
	lo := uintptr(unsafe.Pointer(unsafe.SliceData(b)))
	return stretch{lo, lo + uintptr(cap(b))}
}

func ofFiles(l []api.File) stretch {
	lo := uintptr(unsafe.Pointer(unsafe.SliceData(l)))
	return stretch{lo, lo + uintptr(cap(l))*unsafe.Sizeof(api.File{})}
}

func ofText(s string) stretch {
	lo := uintptr(unsafe.Pointer(unsafe.StringData(s)))
	return stretch{lo, lo + uintptr(len(s))}
}

// apart: no two of them have a byte of memory in common.
func apart(t *testing.T, what string, list ...stretch) {
	t.Helper()
	for i, a := range list {
		for _, b := range list[:i] {
			if a.lo < a.hi && b.lo < b.hi && a.lo < b.hi && b.lo < a.hi {
				t.Fatalf("P11.1: %s: two lists share memory", what)
			}
		}
	}
}

// overwrite: all of a list's memory, spare room too, and what an append writes.
func overwrite(b []byte) {
	whole := b[:cap(b)]
	for i := range whole {
		whole[i] ^= 0xff
	}
	_ = append(b, 1, 2, 3)
}

// overwriteText: a name in memory of its own is written over with another that is no name.
func overwriteText(s string) {
	b := unsafe.Slice(unsafe.StringData(s), len(s))
	for i := range b {
		b[i] = '#'
	}
}

// own: a text in memory of its own. (Not of one byte: the language itself keeps one of each.)
func own(s string) string { return string(append([]byte(nil), s...)) }

// Bytes and names that were handed in may be written over and appended to afterwards.
func TestP11_1HandedIn(t *testing.T) {
	r := rand.New(rand.NewSource(49))
	for range 1500 {
		limit := 5 + r.Intn(60)
		d := made(t, limit)
		p := &plain{limit: limit}
		for range 20 {
			c := randomCall(r, p)
			c.name += "-name"
			want := p.ask(c)
			handed := c
			handed.name = own(c.name)
			in := roomy([]byte(c.text))
			var got answer
			if c.kind == "Append" {
				got.n, got.e = d.Append(handed.name, in)
				untouched(t, in, []byte(c.text), "Append")
				overwrite(in)
			} else {
				got = ask(d, handed)
			}
			if handed.name != c.name {
				t.Fatalf("P11.1: %v has changed a name", c)
			}
			overwriteText(handed.name)
			if got != want || show(d.Files()) != show(p.told()) {
				t.Fatalf("P11.1: %v = %v, want %v: files %s, want %s", c, got, want, show(d.Files()), show(p.told()))
			}
		}
	}
}

// What Read and Files hand out may be written over and appended to, and stays as it is told whatever comes behind it.
func TestP11_1HandedOut(t *testing.T) {
	r := rand.New(rand.NewSource(50))
	for range 600 {
		x := newPair(t, 20+r.Intn(60))
		x.all(put("long-name", "abcdefgh"), put("other-name", "ijkl"), sync("other-name"))
		for range 15 {
			x.do(randomCall(r, x.p))
			a, b := x.d.Files(), x.d.Files()
			shown := show(b)
			list := []stretch{ofFiles(a), ofFiles(b)}
			for _, f := range append(append([]api.File{}, a...), b...) {
				list = append(list, ofBytes(f.Bytes))
				if len(f.Name) > 1 {
					list = append(list, ofText(f.Name))
				}
			}
			for _, f := range b {
				p, _ := x.d.Read(f.Name, 0, len(f.Bytes))
				q, _ := x.d.Read(f.Name, len(f.Bytes)/2, len(f.Bytes)-len(f.Bytes)/2)
				list = append(list, ofBytes(p), ofBytes(q))
				overwrite(p)
				overwrite(q)
			}
			apart(t, "Files and Read", list...)
			for i, f := range a {
				overwrite(f.Bytes)
				if len(f.Name) > 1 {
					overwriteText(f.Name)
				}
				a[i] = api.File{}
			}
			_ = append(a, api.File{Name: "x"})
			x.see()
			x.do(randomCall(r, x.p))
			if show(b) != shown {
				t.Fatalf("P11.1: what Files has told changed: %s, was %s", show(b), shown)
			}
		}
	}
}

// A Read stays as it was told, whatever is appended, turned, cut and lost behind it.
func TestP11_1ReadStays(t *testing.T) {
	x := newPair(t, 99)
	x.do(put("a", "abcdef"))
	b, _ := x.d.Read("a", 1, 4)
	x.all(turn("a", 2, 0xff), cut("a", 3), put("a", "XYZ"), crash(1), up(), put("a", "more"), remove("a"))
	if string(b) != "bcde" {
		t.Fatalf("P11.1: a Read has changed: %q", b)
	}
}

// What Load was handed is not kept and not changed, also when it is refused.
func TestP11_1Load(t *testing.T) {
	for _, limit := range []int{9, 8, -1} {
		in := []api.File{{Name: own("first"), Bytes: roomy([]byte("abcd")), Synced: 2}, {Name: own("second"), Bytes: roomy([]byte("efghi")), Synced: 0}, {Name: own("third"), Bytes: roomy(nil)}}
		list := append(in, api.File{Name: "spare"})[:3]
		d, e := disk.Load(limit, list)
		if (e == api.OK) != (limit == 9) {
			t.Fatalf("P11.17: Load(%d) = %d", limit, e)
		}
		if got := show(list); got != `first:"abcd"/2 second:"efghi"/0 third:""/0` || list[:4][3].Name != "spare" {
			t.Fatalf("P11.1: Load has changed what it was handed: %s", got)
		}
		for i, text := range []string{"abcd", "efghi", ""} {
			untouched(t, list[i].Bytes, []byte(text), "Load")
		}
		for i := range list {
			overwrite(list[i].Bytes)
			overwriteText(list[i].Name)
			list[i] = api.File{}
		}
		if d == nil {
			continue
		}
		if got := show(d.Files()); got != `first:"abcd"/2 second:"efghi"/0 third:""/0` {
			t.Fatalf("P11.1: a loaded disk has changed: %s", got)
		}
		x := &pair{t: t, d: d, p: plainLoad(9, []api.File{file("first", "abcd", 2), file("second", "efghi", 0), file("third", "", 0)})}
		x.all(size("first"), put("third", "x"), cut("first", 1), put("second", "y"), crash(2), up(), put("third", "z"))
	}
}

// Two files that were loaded from one list of bytes are two.
func TestP11_1LoadShared(t *testing.T) {
	b := roomy([]byte("abcd"))
	x := &pair{t: t, p: plainLoad(99, []api.File{file("x", "abcd", 1), file("y", "abcd", 2), file("z", "ab", 0)})}
	x.d, _ = disk.Load(99, []api.File{{Name: "x", Bytes: b, Synced: 1}, {Name: "y", Bytes: b, Synced: 2}, {Name: "z", Bytes: b[:2]}})
	x.see()
	x.all(turn("x", 0, 1), put("z", "ZZ"), put("x", "X"), cut("y", 1), put("y", "YY"))
	untouched(t, b, []byte("abcd"), "Load")
}

// A disk of a disk's files shares nothing with it.
func TestP11_1LoadOfFiles(t *testing.T) {
	r := rand.New(rand.NewSource(51))
	for range 300 {
		x := newPair(t, 40)
		x.all(put("a", "abcdef"), sync("a"), put("a", "gh"), put("b", strings.Repeat("x", 5)))
		files := x.d.Files()
		d, _ := disk.Load(40, files)
		y := &pair{t: t, d: d, p: plainLoad(40, files)}
		for range 12 {
			x.do(randomCall(r, x.p))
			y.see()
			y.do(randomCall(r, y.p))
			x.see()
		}
	}
}
