package archive_test

import (
	"bytes"
	"testing"

	"redraft/api"
	"redraft/archive"
	"redraft/desk"
)

// chanceView: a view of a few chance commands.
func chanceView(seed int64, n int) *desk.Replica {
	v := desk.NewReplica()
	newMaker(seed).grow(v, n)
	return v
}

func saved(t *testing.T, v *desk.Replica) []byte {
	t.Helper()
	b, e := archive.Save(v)
	if e != api.OK {
		t.Fatalf("P22.2: Save: %d", e)
	}
	return b
}

func loaded(t *testing.T, b []byte) *desk.Replica {
	t.Helper()
	v, e := archive.Load(b)
	if e != api.OK {
		t.Fatalf("P22.4: Load(%x): %d", b, e)
	}
	return v
}

// P22.11: what comes back is the same, and is undone and redone as the first.
func TestP22_11BackAgain(t *testing.T) {
	for seed := range int64(150) {
		v := chanceView(seed, 20)
		b := saved(t, v)
		w := loaded(t, b)
		if !sameView(t, v, w) || !bytes.Equal(saved(t, w), b) {
			t.Fatalf("P22.11: seed %d: %q has come back as %q", seed, v.Text(), w.Text())
		}
		if list, e := archive.Ops(b); e != api.OK || !sameOps(list, opsOf(t, v)) {
			t.Fatalf("P22.11: seed %d: Ops = %v, %d", seed, list, e)
		}
		turnAll(t, v, w)
		if !bytes.Equal(saved(t, v), saved(t, w)) || !sameView(t, loaded(t, saved(t, w)), v) {
			t.Fatalf("P22.11: seed %d: behind undoing all, the archives are not the same", seed)
		}
	}
}

// turnAll: every edit of both is turned the other way, one behind the other, and back, the last first: both do the same.
func turnAll(t *testing.T, v, w *desk.Replica) {
	t.Helper()
	n := v.Len()
	turn := func(i, k int) {
		x, err := v.Entry(i)
		if err != nil {
			t.Fatal(err)
		}
		if x.Kind == api.Status {
			return
		}
		o := status(8, 1024-k, x.ID, !x.On)
		a, errV := v.Put(v.Len(), o)
		c, errW := w.Put(w.Len(), o)
		if api.Code(errV) != api.Code(errW) || !sameOps([]api.Op{a}, []api.Op{c}) || !sameView(t, v, w) {
			t.Fatalf("P22.11: %v does %v, %v in the first, %v, %v in the loaded one", o, a, errV, c, errW)
		}
	}
	for i := range n {
		turn(i, i)
	}
	for i := range n {
		turn(n-1-i, 300+i)
	}
}

// An archive has one form: what is written otherwise, and would say the same, is refused.
func TestP22_11OneForm(t *testing.T) {
	a := ins(1, 17, 0, "ab")
	long := framed([]byte("c"), four(0), []byte{1, 1, 0x91, 0, 0, 2, 'a', 'b'})
	askArchive(t, "a number in two bytes", join(headFrame(), long, footFrame(a)), api.ErrNumber)
	for seed := range int64(40) {
		b := saved(t, chanceView(seed, 6))
		parts, _ := partsOf(b)
		for _, x := range parts {
			for i := range len(x.payload) {
				other := join(b[:x.lo], framed(turned([]byte(x.payload), i, 1<<(i%8))), b[x.hi:])
				if _, e := archive.Tell(other); e == api.OK {
					t.Fatalf("P22.11: %x is an archive, and so is %x, of the same checksum", b, other)
				}
			}
		}
	}
}

// fewCommands: archives of few bytes, of each kind of command.
func fewCommands() [][]api.Op {
	return [][]api.Op{nil, {readA}, {readA, readB}, everyKind()[:6], {ins(1, 1, 0, "\u01dd\u01dd"), hide(2, 1, 0, 1), status(1, 2, api.ID{2, 1}, false)}}
}

// P22.12: cut anywhere: refused with ErrShort; rescued as far as whole frames reach.
func TestP22_12Torn(t *testing.T) {
	for _, ops := range fewCommands() {
		list := frames(ops...)
		b := join(list...)
		for n := range len(b) {
			askArchive(t, "cut", b[:n], api.ErrShort)
			if n < len(headFrame()) {
				holdsRescue(t, "cut in the head", []piece{no(b[:n])})
				continue
			}
			k, whole := 0, len(headFrame())
			for k < len(ops) && whole+len(list[k+1]) <= n {
				k++
				whole += len(list[k])
			}
			holdsRescue(t, "cut", []piece{yes(b[:whole]), no(b[whole:n])}, ops[:k]...)
		}
		holdsRescue(t, "whole", []piece{yes(b)}, ops...)
		d := deltaOf(ops, []api.Op{ins(7, 1, 0, "more"), hide(7, 2, 0, 4)})
		for n := range len(d) {
			if p, e := archive.Patch(b, d[:n]); len(p) != 0 || e != api.ErrShort {
				t.Fatalf("P22.12: Patch with a delta cut to %d bytes: %x, %d", n, p, e)
			}
		}
	}
}

// P22.12: any one bit turned: ErrMark in a frame's first eight bytes, else ErrSum; the commands ahead are rescued.
func TestP22_12Spoilt(t *testing.T) {
	for _, ops := range fewCommands() {
		list := frames(ops...)
		for i := range list {
			for at := range list[i] {
				for bit := range 8 {
					bad := turned(list[i], at, 1<<bit)
					b := join(join(list[:i]...), bad, join(list[i+1:]...))
					e := api.ErrSum
					if at < 8 {
						e = api.ErrMark
					}
					if _, f := archive.Tell(b); f != e {
						t.Fatalf("P22.12: frame %d, byte %d, bit %d: Tell %d, want %d", i, at, bit, f, e)
					}
					if bit == at%8 {
						askArchive(t, "spoilt", b, e)
					}
					holdsRescue(t, "spoilt", spoiltPieces(list, i, bad), rescuable(ops, i)...)
				}
			}
		}
	}
}

// spoiltPieces: what is taken, if frame i is spoilt.
func spoiltPieces(list [][]byte, i int, bad []byte) []piece {
	var out []piece
	for k, x := range list {
		switch {
		case k == i:
			out = append(out, no(bad))
		case i == 0 || k < i:
			out = append(out, yes(x))
		default:
			out = append(out, no(x))
		}
	}
	return out
}

func rescuable(ops []api.Op, i int) []api.Op {
	if i == 0 || i > len(ops) {
		return ops
	}
	return ops[:i-1]
}

// P22.13: beginnings, and what brings them back to the whole.
func TestP22_13Beginnings(t *testing.T) {
	for seed := range int64(60) {
		v := chanceView(seed, 12)
		b, ops := saved(t, v), opsOf(t, v)
		for k := range len(ops) + 1 {
			part, e := archive.Cut(b, k)
			if e != api.OK || !bytes.Equal(part, saved(t, viewOfAll(t, ops[:k]))) {
				t.Fatalf("P22.13: seed %d: Cut(b, %d) = %x, %d", seed, k, part, e)
			}
			if k == len(ops) && !bytes.Equal(part, b) {
				t.Fatalf("P22.13: seed %d: Cut of all is not b", seed)
			}
			for _, pair := range [][2][]byte{{part, b}, {b, part}} {
				if j, n, e := archive.Join(pair[0], pair[1]); !bytes.Equal(j, b) || n != k || e != api.OK {
					t.Fatalf("P22.13: seed %d: Join of %d and all: %x, %d, %d", seed, k, j, n, e)
				}
			}
			d, e := archive.Delta(part, b)
			if e != api.OK {
				t.Fatalf("P22.13: seed %d: Delta: %d", seed, e)
			}
			if p, e := archive.Patch(part, d); e != api.OK || !bytes.Equal(p, b) {
				t.Fatalf("P22.13: seed %d: Patch of %d: %x, %d", seed, k, p, e)
			}
			for n := range k + 1 {
				if again, e := archive.Cut(part, n); e != api.OK || !bytes.Equal(again, archiveOf(ops[:n]...)) {
					t.Fatalf("P22.13: seed %d: Cut of a Cut: %d", seed, e)
				}
			}
		}
	}
}

// Rescue of an archive gives itself, and 0 lost.
func TestP22_10OfAnArchive(t *testing.T) {
	for seed := range int64(60) {
		b := saved(t, chanceView(seed, 15))
		if s, n, e := archive.Rescue(b); !bytes.Equal(s, b) || n != 0 || e != api.OK {
			t.Fatalf("P22.10: seed %d: Rescue of an archive: %x, %d, %d", seed, s, n, e)
		}
	}
}
