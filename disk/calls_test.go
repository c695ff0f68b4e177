package disk_test

import (
	"fmt"
	"math/rand"
	"strings"
	"testing"

	"redraft/api"
)

// Appends that just fit, don't fit, and of no bytes, to a file that is there and to one that is not.
func TestP11_3Append(t *testing.T) {
	for limit := range 9 {
		for ahead := range 5 {
			for n := range 9 {
				for _, name := range []string{"there", "new"} {
					x := newPair(t, limit)
					x.do(put("there", strings.Repeat("x", ahead)))
					room := limit - x.d.Used()
					got := x.do(put(name, "abcdefgh"[:n]))
					want := answer{n: n}
					if n > room {
						want = answer{n: room, e: api.ErrFull}
					}
					if got != want {
						t.Fatalf("P11.3: limit %d, used %d: Append of %d bytes = %v, want %v", limit, limit-room, n, got, want)
					}
					if _, _, e := x.d.Size(name); e != api.OK {
						t.Fatalf("P11.3: no file behind an Append of %d bytes to %s: %d", n, name, e)
					}
					x.all(size(name), put(name, ""), put(name, "y"), put("third", "z"))
				}
			}
		}
	}
}

// The bytes go to the end, loose, behind durable ones; room that a Cut or a Remove gives back is there again.
func TestP11_3Room(t *testing.T) {
	x := newPair(t, 6)
	x.all(put("a", "abc"), sync("a"), put("a", "de"), put("b", "fg"), size("a"), cut("a", 4), put("b", "xyz"), remove("b"), put("c", "12345"), put("c", ""), crash(0), up(), put("c", "123"), put("a", "4"), sync("c"))
}

func TestP11_3EveryByte(t *testing.T) {
	x := newPair(t, 600)
	all := make([]byte, 256)
	for i := range all {
		all[i] = byte(i)
	}
	x.all(put("a", string(all)), read("a", 0, 256), sync("a"), put("a", string(all)), crash(9), read("a", 0, 256), up(), read("a", 250, 15))
}

// nil and a list without bytes are one and the same.
func TestP11_3Nil(t *testing.T) {
	d := made(t, 5)
	if n, e := d.Append("a", nil); n != 0 || e != api.OK || show(d.Files()) != `a:""/0` {
		t.Fatalf("P11.3, rule 13: Append of nil = %d, %d, files %s", n, e, show(d.Files()))
	}
}

func TestP11_4Sync(t *testing.T) {
	for n := range 5 {
		for m := range 5 {
			x := newPair(t, 99)
			x.do(sync("a"))
			x.all(put("b", "loose"), put("a", "abcd"[:n]), sync("a"), size("a"), sync("a"), put("a", "wxyz"[:m]), size("a"), sync("a"), size("a"), size("b"))
			if size, synced, _ := x.d.Size("a"); size != n+m || synced != n+m {
				t.Fatalf("P11.4: %d of %d bytes are durable behind a Sync", synced, size)
			}
			if _, synced, _ := x.d.Size("b"); synced != 0 {
				t.Fatalf("P11.4: a Sync of another file: %d durable", synced)
			}
		}
	}
}

// bounds: numbers at a bound and beside it, and far ones.
func bounds(around ...int) []int {
	out := append([]int{}, far...)
	for _, n := range around {
		out = append(out, n-1, n, n+1)
	}
	return out
}

func TestP11_5Cut(t *testing.T) {
	for _, n := range []int{0, 1, 2, 5} {
		for synced := range n + 1 {
			for _, at := range bounds(0, synced, n) {
				x := newPair(t, 99)
				x.all(put("a", "abcde"[:synced]), sync("a"), put("a", "abcde"[synced:n]), put("b", "other"))
				got := x.do(cut("a", at))
				want := api.OK
				if at < 0 || at > n {
					want = api.ErrPlace
				}
				if got.e != want {
					t.Fatalf("P11.5: Cut of %d bytes to %d = %v, want %d", n, at, got, want)
				}
				x.all(size("a"), read("a", 0, 1), put("a", "Z"), crash(1), up(), size("a"))
			}
		}
	}
	x := newPair(t, 9)
	x.all(cut("a", 0), put("a", "abc"), sync("a"), cut("a", 0), size("a"), sync("a"), crash(9), up(), size("a"))
}

// For good: no crash brings back what was cut or removed, durable or not.
func TestP11_5P11_6ForGood(t *testing.T) {
	for _, keep := range []int{0, 1, 2, 99} {
		for size := range 6 {
			x := newPair(t, 99)
			x.all(put("a", "abc"), sync("a"), put("a", "def"), cut("a", size), crash(keep), up(), read("a", 0, size), put("a", "z"))
			y := newPair(t, 99)
			y.all(put("a", "abc"), sync("a"), put("a", "def"), remove("a"), crash(keep), up(), remove("a"), put("a", "z"), crash(keep))
		}
	}
}

func TestP11_6Remove(t *testing.T) {
	x := newPair(t, 9)
	x.all(remove("a"), put("a", "abc"), put("b", "d"), sync("a"), remove("a"), remove("a"), size("a"), read("a", 0, 0), cut("a", 0), sync("a"), turn("a", 0, 1), put("a", "x"), size("a"), put("n", ""), remove("n"), remove("n"), remove("b"), remove("a"))
	if len(x.d.Files()) != 0 || x.d.Used() != 0 {
		t.Fatalf("P11.6: files %s, used %d", show(x.d.Files()), x.d.Used())
	}
}

func TestP11_7Read(t *testing.T) {
	for n := range 5 {
		x := newPair(t, 99)
		x.do(read("a", 0, 0))
		x.all(put("a", "wxyz"[:n/2]), sync("a"), put("a", "wxyz"[n/2:n]))
		for _, off := range bounds(0, 2, n) {
			for _, k := range bounds(0, 2, n) {
				got := x.do(read("a", off, k))
				if off >= 0 && k >= 0 && off <= n && k <= n-off {
					if got != (answer{text: "wxyz"[off : off+k]}) {
						t.Fatalf("P11.7: Read(%d, %d) of %d bytes = %v", off, k, n, got)
					}
				} else if got != (answer{e: api.ErrPlace}) {
					t.Fatalf("P11.7: Read(%d, %d) of %d bytes = %v, want ErrPlace", off, k, n, got)
				}
			}
		}
	}
}

func TestP11_8Size(t *testing.T) {
	for n := range 5 {
		for synced := range n + 1 {
			x := newPair(t, 99)
			x.do(size("a"))
			x.all(put("a", "wxyz"[:synced]), sync("a"), put("a", "wxyz"[synced:n]), put("b", "12"))
			if got := x.do(size("a")); got != (answer{n: n, m: synced}) {
				t.Fatalf("P11.8: Size = %v, want %d, %d", got, n, synced)
			}
		}
	}
}

// By names rising, as strings are compared, however they came.
func TestP11_9Files(t *testing.T) {
	want := []string{"-", ".", "..", "0", "00", "1", "_", "_a", "a", "a-", "a.", "a0", "a_", "aa", "ab", "b", "z", "zz"}
	r := rand.New(rand.NewSource(43))
	for range 100 {
		x := newPair(t, 99)
		for _, i := range r.Perm(len(want)) {
			x.do(put(want[i], "x"))
		}
		for range 3 {
			for i, f := range x.d.Files() {
				if f.Name != want[i] {
					t.Fatalf("P11.9: file %d is %q, want %q", i, f.Name, want[i])
				}
			}
		}
		if x.d.Used() != len(want) || x.d.Down() {
			t.Fatalf("P11.9: Used %d, Down %v", x.d.Used(), x.d.Down())
		}
	}
}

// Many files: an order that isn't seen would show here.
func TestP11_9ManyFiles(t *testing.T) {
	d := made(t, 9999)
	for i := range 500 {
		d.Append(fmt.Sprintf("f%03d", i*7%500), []byte("xy"))
	}
	d.Sync("f001")
	d.Crash(1)
	files := d.Files()
	if len(files) != 500 || d.Used() != 501 {
		t.Fatalf("P11.9: %d files, used %d", len(files), d.Used())
	}
	for i, f := range files {
		if f.Name != fmt.Sprintf("f%03d", i) || len(f.Bytes) != f.Synced {
			t.Fatalf("P11.9: file %d is %s", i, show(files[i:i+1]))
		}
	}
}

// What is told of a disk that is down: the files that the crash has left.
func TestP11_9Down(t *testing.T) {
	x := newPair(t, 99)
	x.all(put("a", "abc"), sync("a"), put("b", "def"), put("a", "gh"), put("c", ""))
	x.do(crash(1))
	for range 3 {
		if got := show(x.d.Files()); got != `a:"abcg"/4 b:"d"/1` || x.d.Used() != 5 || !x.d.Down() {
			t.Fatalf("P11.9: files %s, used %d, down %v", got, x.d.Used(), x.d.Down())
		}
	}
}

func TestP11_13Turn(t *testing.T) {
	for n := range 4 {
		for synced := range n + 1 {
			for _, at := range bounds(0, synced, n) {
				for _, mask := range []byte{0, 1, 0x80, 0xff} {
					x := newPair(t, 99)
					x.do(turn("a", 0, 1))
					x.all(put("a", "wxy"[:synced]), sync("a"), put("a", "wxy"[synced:n]), put("b", "wxy"), arm(1, 0))
					got := x.do(turn("a", at, mask))
					if want := at >= 0 && at < n; (got.e == api.OK) != want || !want && got.e != api.ErrPlace {
						t.Fatalf("P11.13: Turn(%d) of %d bytes = %v", at, n, got)
					}
					x.all(size("a"), turn("a", at, mask), sync("a"))
				}
			}
		}
	}
}
