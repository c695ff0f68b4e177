package disk_test

import (
	"math/rand"
	"slices"
	"strings"
	"testing"
	"unsafe"

	"redraft/api"
	"redraft/disk"
)

func TestP11_2New(t *testing.T) {
	for _, limit := range []int{0, 1, 2, 9, 1 << 20, 1 << 31, 1 << 32, greatest - 1, greatest} {
		d := made(t, limit)
		if len(d.Files()) != 0 || d.Used() != 0 || d.Down() {
			t.Fatalf("P11.2: New(%d): files %s, used %d, down %v", limit, show(d.Files()), d.Used(), d.Down())
		}
		x := &pair{t: t, d: d, p: &plain{limit: limit}}
		x.all(put("a", "xyz"), put("b", ""), sync("a"), cut("a", 0), remove("a"), remove("b"))
	}
	for _, limit := range append([]int{-1, -2, greatest + 1, greatest + 2, 1 << 50}, far...) {
		if d, e := disk.New(limit); d != nil || e != api.ErrPlace {
			t.Fatalf("P11.2: New(%d) = %v, %d", limit, d != nil, e)
		}
	}
}

// file: as Load takes it.
func file(name, text string, synced int) api.File {
	return api.File{Name: name, Bytes: []byte(text), Synced: synced}
}

// plainFault: P11.17's words, file by file.
func plainFault(limit int, files []api.File) api.Errno {
	if limit < 0 || limit > greatest {
		return api.ErrPlace
	}
	sum := 0
	for i, f := range files {
		if !named.MatchString(f.Name) {
			return api.ErrName
		}
		for _, g := range files[:i] {
			if g.Name == f.Name {
				return api.ErrTwice
			}
		}
		if f.Synced < 0 || f.Synced > len(f.Bytes) {
			return api.ErrPlace
		}
		sum += len(f.Bytes)
	}
	if sum > limit {
		return api.ErrPlace
	}
	return api.OK
}

// plainLoad: the disk that the words tell.
func plainLoad(limit int, files []api.File) *plain {
	p := &plain{limit: limit}
	for _, f := range files {
		g := plainFile{name: f.Name}
		for i, b := range f.Bytes {
			g.row = append(g.row, plainByte{b, i < f.Synced})
		}
		p.files = append(p.files, g)
	}
	return p
}

// loaded: Load answers as the words say, and the disk is the one that they tell.
func loaded(t *testing.T, limit int, files []api.File) *pair {
	t.Helper()
	d, e := disk.Load(limit, files)
	if want := plainFault(limit, files); e != want || (d != nil) != (want == api.OK) {
		t.Fatalf("P11.17: Load(%d, %s) = %v, %d, want %d", limit, show(files), d != nil, e, want)
	}
	if d == nil {
		return nil
	}
	x := &pair{t: t, d: d, p: plainLoad(limit, files)}
	x.see()
	return x
}

func TestP11_17Load(t *testing.T) {
	two := []api.File{file("b", "xyz", 1), file("a", "", 0)}
	x := loaded(t, 10, two)
	x.all(size("a"), size("b"), put("b", "12345678"), crash(1))
	loaded(t, 0, nil).all(put("a", "x"))
	loaded(t, 0, []api.File{}).all(put("a", ""), put("b", "x"))
	loaded(t, 0, []api.File{file("a", "", 0), file("b", "", 0)}).all(crash(9))
	loaded(t, greatest, two).all(put("c", "x"), sync("b"), crash(0), up(), remove("b"))
	for synced := range 4 {
		x := loaded(t, 3, []api.File{file("f", "xyz", synced)})
		x.all(size("f"), arm(1, 0), put("f", "more"), size("f"))
		loaded(t, 3, []api.File{file("f", "xyz", synced)}).all(crash(1), up(), size("f"))
	}
}

// Load with each limit: as many bytes as just fit, one less, one more.
func TestP11_17Limit(t *testing.T) {
	for n := range 7 {
		for limit := -2; limit < 9; limit++ {
			loaded(t, limit, []api.File{file("a", strings.Repeat("x", n), 0)})
			loaded(t, limit, []api.File{file("b", strings.Repeat("x", n/2), n/2), file("a", strings.Repeat("y", n-n/2), 0)})
			loaded(t, limit, []api.File{file("a", "", 0), file("b", strings.Repeat("x", n), 0), file("c", "", 0)})
		}
	}
	for _, limit := range append([]int{greatest - 1, greatest, greatest + 1}, far...) {
		loaded(t, limit, nil)
		loaded(t, limit, []api.File{file("A", "", 0)})
		loaded(t, limit, []api.File{file("a", "xy", 2)})
	}
}

// Each fault with each other one at once, in one file and in two, in both orders.
func TestP11_17Faults(t *testing.T) {
	var pool []api.File
	for _, name := range []string{"a", "b", "", "A", strings.Repeat("n", 33)} {
		for _, text := range []string{"", "xy"} {
			for _, synced := range append([]int{-1, 0, 1, 2, 3}, far...) {
				pool = append(pool, file(name, text, synced))
			}
		}
	}
	for _, limit := range []int{-1, 0, 1, 2, 3, 4, greatest + 1} {
		for _, f := range pool {
			loaded(t, limit, []api.File{f})
			for _, g := range pool {
				loaded(t, limit, []api.File{f, g})
				loaded(t, limit, []api.File{file("a", "x", 1), f, g})
			}
		}
	}
}

// The first file that has a fault gives the error, whatever the later ones have.
func TestP11_17First(t *testing.T) {
	faults := []struct {
		f api.File
		e api.Errno
	}{{file("A", "x", 9), api.ErrName}, {file("a", "x", 9), api.ErrTwice}, {file("c", "x", 9), api.ErrPlace}}
	for _, first := range faults {
		for _, later := range faults {
			files := []api.File{file("a", "xyz", 0), file("b", "", 0), first.f, file("d", "x", 0), later.f}
			if d, e := disk.Load(1, files); d != nil || e != first.e {
				t.Fatalf("P11.17: Load(1, %s) = %v, %d, want %d", show(files), d != nil, e, first.e)
			}
		}
	}
}

// Sums without bound: four lists, each so long that the sum of their lengths wraps round to 0. (No byte of them may be looked at: they are not there.)
func TestP11_17SumDoesNotWrap(t *testing.T) {
	header := struct {
		first       *byte
		length, cap int
	}{new(byte), 1 << 62, 1 << 62}
	huge := *(*[]byte)(unsafe.Pointer(&header))
	files := []api.File{{Name: "a", Bytes: huge}, {Name: "b", Bytes: huge}, {Name: "c", Bytes: huge}, {Name: "d", Bytes: huge}}
	for n := range 5 {
		want := api.ErrPlace
		if n == 0 {
			want = api.OK
		}
		if d, e := disk.Load(greatest, files[:n]); (d != nil) != (n == 0) || e != want {
			t.Fatalf("P11.17, rule 13: Load of %d huge files = %v, %d", n, d != nil, e)
		}
	}
}

// A disk that runs and is not armed, and Load of what it tells, answer the same from then on.
func TestP11_17LikeTheOther(t *testing.T) {
	r := rand.New(rand.NewSource(41))
	for range 2000 {
		limit := r.Intn(30)
		x := newPair(t, limit)
		for range r.Intn(25) {
			x.do(randomCall(r, x.p))
		}
		if x.p.down {
			x.do(up())
		}
		x.do(arm(0, -1))
		files := x.d.Files()
		r.Shuffle(len(files), func(i, j int) { files[i], files[j] = files[j], files[i] })
		y := loaded(t, limit, files)
		for range 25 {
			c := randomCall(r, x.p)
			if a, b := x.do(c), y.do(c); a != b {
				t.Fatalf("P11.17: %v = %v, loaded: %v", c, a, b)
			}
		}
	}
}

// The order of the files in the list does not matter.
func TestP11_17Order(t *testing.T) {
	r := rand.New(rand.NewSource(42))
	files := []api.File{file("b", "2", 1), file("a", "1", 0), file("_", "", 0), file("0", "xyz", 2), file("aa", "q", 1)}
	want := `0:"xyz"/2 _:""/0 a:"1"/0 aa:"q"/1 b:"2"/1`
	for range 200 {
		list := slices.Clone(files)
		r.Shuffle(len(list), func(i, j int) { list[i], list[j] = list[j], list[i] })
		x := loaded(t, 6, list)
		if got := show(x.d.Files()); got != want {
			t.Fatalf("P11.17, P11.9: files %s, want %s", got, want)
		}
	}
}
