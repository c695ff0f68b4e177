package archive_test

import (
	"bytes"
	"slices"
	"testing"

	"redraft/api"
	"redraft/archive"
)

// faulty: bytes that are no archive with a view, each of another error.
func faulty() map[api.Errno][]byte {
	b := archiveOf(everyKind()...)
	foot := len(footFrame())
	return map[api.Errno][]byte{
		api.ErrShort:   b[:len(b)-1],
		api.ErrMark:    turned(b, 3, 1),
		api.ErrSum:     turned(b, 12, 1),
		api.ErrTail:    join(b, []byte{7}),
		api.ErrFormat:  b[21:],
		api.ErrVersion: join(framed([]byte("redraft\x02\x01")), b[21:]),
		api.ErrIndex:   join(headFrame(), commandFrame(1, readA), footFrame(readA)),
		api.ErrCount:   join(headFrame(), b[len(b)-foot:]),
		api.ErrPlace:   archiveOf(hide(1, 1, 0, 1)),
		api.ErrTwice:   archiveOf(readA, readA),
		api.ErrUnknown: archiveOf(status(1, 1, api.ID{1, 2}, false)),
	}
}

// The errors of the first archive come ahead of those of the second, and those ahead of ErrApart.
func TestErrorsOfTwo(t *testing.T) {
	right := archiveOf(readA)
	for e, x := range faulty() {
		for f, y := range faulty() {
			for _, c := range []struct {
				a, b []byte
				e    api.Errno
			}{{x, y, e}, {x, right, e}, {right, y, f}} {
				if j, n, got := archive.Join(c.a, c.b); len(j) != 0 || n != 0 || got != c.e {
					t.Errorf("P22.7: Join of %d and %d: %x, %d, %d, want %d", e, f, j, n, got, c.e)
				}
				if d, got := archive.Delta(c.a, c.b); len(d) != 0 || got != c.e {
					t.Errorf("P22.8: Delta of %d and %d: %x, %d, want %d", e, f, d, got, c.e)
				}
				holdsTwo(t, c.a, c.b)
			}
			if p, got := archive.Patch(x, y); len(p) != 0 || got != e {
				t.Errorf("P22.9: Patch of %d with %d: %x, %d, want %d", e, f, p, got, e)
			}
		}
	}
}

// Archives of which one begins with the other, and that are the same.
func TestOneBeginsWithTheOther(t *testing.T) {
	ops := everyKind()
	for i := range len(ops) + 1 {
		for k := range len(ops) + 1 {
			a, b := archiveOf(ops[:i]...), archiveOf(ops[:k]...)
			longer := archiveOf(ops[:max(i, k)]...)
			if j, n, e := archive.Join(a, b); !bytes.Equal(j, longer) || n != min(i, k) || e != api.OK {
				t.Errorf("P22.7: Join of %d and %d commands: %x, %d, %d", i, k, j, n, e)
			}
			d, e := archive.Delta(a, b)
			if i > k {
				if len(d) != 0 || e != api.ErrApart {
					t.Errorf("P22.8: Delta of %d and %d commands: %x, %d", i, k, d, e)
				}
				continue
			}
			if want := deltaOf(ops[:i], ops[i:k]); !bytes.Equal(d, want) || e != api.OK {
				t.Errorf("P22.8: Delta of %d and %d commands: %x, %d, want %x", i, k, d, e, want)
			}
			for n := range len(ops) + 1 {
				p, e := archive.Patch(archiveOf(ops[:n]...), d)
				if n == i && (!bytes.Equal(p, b) || e != api.OK) || n != i && (len(p) != 0 || e != api.ErrApart) {
					t.Errorf("P22.9: Patch of %d commands with those from %d to %d: %x, %d", n, i, k, p, e)
				}
			}
		}
	}
}

// others: a command that stands where o could, but is another one in one field alone.
func others(o api.Op) []api.Op {
	out := []api.Op{o, o}
	out[0].ID[0] = 7
	out[1].ID[1] = 777
	switch o.Kind {
	case api.Ins:
		out = append(out, ins(o.ID[0], o.ID[1], o.At, o.Text+"x"), ins(o.ID[0], o.ID[1], o.At, "\u2713"+o.Text[len(string([]rune(o.Text)[:1])):]))
		if o.At > 0 {
			out = append(out, ins(o.ID[0], o.ID[1], o.At-1, o.Text))
		}
	case api.Hide:
		last := slices.Clone(o.Ranges)
		if n := len(last); n > 1 {
			out = append(out, api.Op{Head: o.Head, Ranges: last[:n-1]}, api.Op{Head: o.Head, Ranges: last[1:]})
		}
	case api.Status:
		out = append(out, status(o.ID[0], o.ID[1], o.Target, !o.On), status(o.ID[0], o.ID[1], api.ID{2, 1}, o.On))
	}
	return out
}

// P22.14: two that part at every place, in each field, whatever comes behind.
func TestTwoThatPart(t *testing.T) {
	ops := everyKind()
	parted := 0
	for k, o := range ops {
		for _, other := range others(o) {
			if _, e := viewOf(append(slices.Clone(ops[:k]), other)); e != api.OK || bytes.Equal(plainOp(other), plainOp(o)) {
				continue
			}
			parted++
			b := archiveOf(append(slices.Clone(ops[:k]), other)...)
			for n := k + 1; n <= len(ops); n++ {
				a := archiveOf(ops[:n]...)
				for _, pair := range [][2][]byte{{a, b}, {b, a}} {
					if j, shared, e := archive.Join(pair[0], pair[1]); len(j) != 0 || shared != k || e != api.ErrApart {
						t.Errorf("P22.14: Join, %v and %v at %d: %x, %d, %d", o, other, k, j, shared, e)
					}
					if d, e := archive.Delta(pair[0], pair[1]); len(d) != 0 || e != api.ErrApart {
						t.Errorf("P22.14: Delta, %v and %v at %d: %x, %d", o, other, k, d, e)
					}
				}
			}
			holdsTwo(t, archiveOf(ops...), b)
		}
	}
	if parted < 25 {
		t.Errorf("only %d other commands were met", parted)
	}
}

// Patch: a base of another length, or of another checksum, is another base, whatever the delta holds.
func TestAnotherBase(t *testing.T) {
	a := []api.Op{readA, readB}
	more := []api.Op{ins(3, 1, 0, "new")}
	right := deltaOf(a, more)
	sum := plainSum(plainOps(a))
	if p, e := archive.Patch(archiveOf(a...), right); e != api.OK || !bytes.Equal(p, archiveOf(append(a, more...)...)) {
		t.Fatalf("P22.9: Patch = %x, %d", p, e)
	}
	other := append(slices.Clone(a[:1]), ins(2, 1, 1, "c\u00e8"))
	for _, c := range []struct {
		what string
		head []byte
		n    int
	}{
		{"one fewer", deltaHead(1, sum), 1},
		{"one more", deltaHead(3, sum), 3},
		{"256 more", deltaHead(258, sum), 258},
		{"the other end", deltaHead(2<<24, sum), 2 << 24},
		{"another sum", deltaHead(2, turned(sum, 3, 1)), 2},
		{"another sum's first byte", deltaHead(2, turned(sum, 0, 0x80)), 2},
		{"no sum", deltaHead(2, plainSum(nil)), 2},
		{"both", deltaHead(1, plainSum(plainOp(readA))), 1},
		{"another's sum", deltaHead(2, plainSum(plainOps(other))), 2},
	} {
		for _, list := range [][]api.Op{nil, more, {readA}, {hide(1, 2, 100, 101)}} { // what it holds would be refused only then
			d := join(framesFrom(c.head, c.n, list)...)
			if p, e := archive.Patch(archiveOf(a...), d); len(p) != 0 || e != api.ErrApart {
				t.Errorf("P22.9: %s: Patch = %x, %d, want ErrApart", c.what, p, e)
			}
			if p, e := archive.Patch(archiveOf(a...), join(d, []byte{1})); len(p) != 0 || e != api.ErrTail {
				t.Errorf("P22.9: %s, with a tail: Patch = %x, %d, want ErrTail", c.what, p, e)
			}
			holdsTwo(t, archiveOf(a...), d)
		}
	}
	if p, e := archive.Patch(archiveOf(other...), right); len(p) != 0 || e != api.ErrApart {
		t.Errorf("P22.9: another view of as many commands: Patch = %x, %d", p, e)
	}
	// The cells of the base are not told by a delta; its own foot counts its own alone.
	if d, e := archive.Delta(archiveOf(a...), archiveOf(append(a, more...)...)); e != api.OK || !bytes.Equal(d, right) {
		t.Errorf("P22.8: Delta = %x, %d, want %x", d, e, right)
	}
}

// A delta of nothing: of the same two, and behind nothing.
func TestEmptyDeltas(t *testing.T) {
	for _, ops := range [][]api.Op{nil, {readA}, everyKind()} {
		b := archiveOf(ops...)
		d, e := archive.Delta(b, b)
		if e != api.OK || !bytes.Equal(d, deltaOf(ops, nil)) || len(d) != 29+25 {
			t.Errorf("P22.8: Delta of the same = %x, %d", d, e)
		}
		if p, e := archive.Patch(b, d); e != api.OK || !bytes.Equal(p, b) {
			t.Errorf("P22.9: Patch with nothing = %x, %d", p, e)
		}
		d, e = archive.Delta(archiveOf(), b)
		if e != api.OK || !bytes.Equal(d, deltaOf(nil, ops)) {
			t.Errorf("P22.8: Delta behind nothing = %x, %d", d, e)
		}
		if p, e := archive.Patch(archiveOf(), d); e != api.OK || !bytes.Equal(p, b) {
			t.Errorf("P22.9: Patch of nothing = %x, %d", p, e)
		}
	}
}
