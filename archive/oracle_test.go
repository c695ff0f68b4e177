package archive_test

import (
	"bytes"
	"encoding/binary"
	"hash/crc32"
	"slices"
	"testing"

	"redraft/api"
	"redraft/archive"
	"redraft/desk"
	"redraft/frame"
	"redraft/msg"
	"redraft/op"
)

// The oracle writes by the chapters' tables alone: its numbers, checksums and frames are made by the library's own means. What it reads it cuts into frames first, all of them, and judges them one by one then.

func ins(c, n, at int, text string) api.Op {
	return api.Op{Head: api.Head{ID: api.ID{c, n}, Kind: api.Ins}, At: at, Text: text}
}

// hide: ends are Lo and Hi of each range.
func hide(c, n int, ends ...int) api.Op {
	o := api.Op{Head: api.Head{ID: api.ID{c, n}, Kind: api.Hide}}
	for pair := range slices.Chunk(ends, 2) {
		o.Ranges = append(o.Ranges, api.Range{Lo: pair[0], Hi: pair[1]})
	}
	return o
}

func status(c, n int, target api.ID, on bool) api.Op {
	return api.Op{Head: api.Head{ID: api.ID{c, n}, Kind: api.Status}, Target: target, On: on}
}

func join(parts ...[]byte) []byte { return append([]byte{}, bytes.Join(parts, nil)...) }

// four: the bytes of numbers, four each.
func four(numbers ...int) []byte {
	var b []byte
	for _, n := range numbers {
		b = binary.BigEndian.AppendUint32(b, uint32(n))
	}
	return b
}

func plainSum(b []byte) []byte {
	return binary.BigEndian.AppendUint32(nil, crc32.Checksum(b, crc32.MakeTable(crc32.Castagnoli)))
}

// framed: the frame of a payload that is put together.
func framed(parts ...[]byte) []byte {
	p := join(parts...)
	length := four(len(p))[1:]
	return join([]byte{0xc7, 0x9d}, length, []byte{^length[0], ^length[1], ^length[2]}, plainSum(p), p)
}

func plainOp(o api.Op) []byte {
	var b []byte
	add := func(numbers ...int) {
		for _, n := range numbers {
			b = binary.AppendUvarint(b, uint64(n))
		}
	}
	add(int(o.Kind), o.ID[0], o.ID[1])
	switch o.Kind {
	case api.Ins:
		add(o.At, len(o.Text))
		b = append(b, o.Text...)
	case api.Hide:
		add(len(o.Ranges))
		end := 0
		for _, x := range o.Ranges {
			add(x.Lo-end, x.Hi-x.Lo)
			end = x.Hi
		}
	case api.Status:
		add(o.Target[0], o.Target[1], map[bool]int{true: 1}[o.On])
	}
	return b
}

func plainOps(ops []api.Op) []byte {
	var b []byte
	for _, o := range ops {
		b = append(b, plainOp(o)...)
	}
	return b
}

func plainCells(ops []api.Op) int {
	n := 0
	for _, o := range ops {
		n += len([]rune(o.Text))
	}
	return n
}

const headPayload = "redraft\x01\x01"

func headFrame() []byte { return framed([]byte(headPayload)) }

func deltaHead(commands int, sum []byte) []byte {
	return framed([]byte("redraft\x01\x02"), four(commands), sum)
}

func commandFrame(k int, o api.Op) []byte { return framed([]byte("c"), four(k), plainOp(o)) }

func footPayload(ops []api.Op) []byte {
	return join([]byte("e"), four(len(ops), plainCells(ops)), plainSum(plainOps(ops)))
}

func footFrame(ops ...api.Op) []byte { return framed(footPayload(ops)) }

// frames: an archive of these commands, frame by frame.
func frames(ops ...api.Op) [][]byte { return framesFrom(headFrame(), 0, ops) }

func framesFrom(head []byte, first int, ops []api.Op) [][]byte {
	out := [][]byte{head}
	for i, o := range ops {
		out = append(out, commandFrame(first+i, o))
	}
	return append(out, footFrame(ops...))
}

func archiveOf(ops ...api.Op) []byte { return join(frames(ops...)...) }

func deltaOf(base, more []api.Op) []byte {
	return join(framesFrom(deltaHead(len(base), plainSum(plainOps(base))), len(base), more)...)
}

// part: a frame within bytes.
type part struct {
	lo, hi  int
	payload string
}

// partsOf: the frames that stand one behind the other from the first byte on, and the fault that ends them.
func partsOf(b []byte) ([]part, api.Errno) {
	var out []part
	for at := 0; ; {
		p, n, e := frame.First(b[at:])
		if e != api.OK {
			return out, e
		}
		out = append(out, part{at, at + n, string(p)})
		at += n
	}
}

// reading: what is read of an archive, or of a delta.
type reading struct {
	ops  []api.Op
	base string // a delta's: the eight bytes of its commands and its checksum
	e    api.Errno
}

func plainHead(p string, kind byte) api.Errno {
	switch {
	case len(p) < 9 || p[:7] != "redraft":
		return api.ErrFormat
	case p[7] != 1:
		return api.ErrVersion
	case p[8] != kind || len(p) != map[byte]int{1: 9, 2: 17}[kind]:
		return api.ErrFormat
	}
	return api.OK
}

func plainCommand(p string, turn int) (api.Op, api.Errno) {
	if len(p) < 5 {
		return api.Op{}, api.ErrFormat
	}
	if turn >= 1<<32 || p[1:5] != string(four(turn)) {
		return api.Op{}, api.ErrIndex
	}
	o, _, e := msg.DecodeOp([]byte(p[5:]))
	return o, e
}

func plainFoot(p string, ops []api.Op) api.Errno {
	want := string(footPayload(ops))
	switch {
	case len(p) != 13:
		return api.ErrFormat
	case p[1:5] != want[1:5] || p[5:9] != want[5:9]:
		return api.ErrCount
	case p[9:] != want[9:]:
		return api.ErrSum
	}
	return api.OK
}

func plainRead(b []byte, kind byte) reading {
	list, fault := partsOf(b)
	var r reading
	turn := 0
	for i, x := range list {
		if i == 0 {
			if e := plainHead(x.payload, kind); e != api.OK {
				return reading{e: e}
			}
			r.base = x.payload[9:]
			if kind == 2 {
				turn = int(binary.BigEndian.Uint32([]byte(r.base)))
			}
			continue
		}
		switch x.payload[:min(1, len(x.payload))] {
		case "c":
			o, e := plainCommand(x.payload, turn)
			if e != api.OK {
				return reading{e: e}
			}
			r.ops = append(r.ops, o)
			turn++
		case "e":
			r.e = plainFoot(x.payload, r.ops)
			if r.e == api.OK && x.hi < len(b) {
				r.e = api.ErrTail
			}
			return r
		default:
			return reading{e: api.ErrFormat}
		}
	}
	return reading{e: fault}
}

// viewOf: the view of commands put one behind the other, or why one is refused.
func viewOf(ops []api.Op) (*desk.Replica, api.Errno) {
	r := desk.NewReplica()
	for i, o := range ops {
		if _, err := r.Put(i, o); err != nil {
			return nil, api.Code(err)
		}
	}
	return r, api.OK
}

// plainLoad: the commands of an archive that make a view.
func plainLoad(b []byte) ([]api.Op, api.Errno) {
	r := plainRead(b, 1)
	if r.e != api.OK {
		return nil, r.e
	}
	if _, e := viewOf(r.ops); e != api.OK {
		return nil, e
	}
	return r.ops, api.OK
}

func plainShared(a, b []api.Op) int {
	for i := range min(len(a), len(b)) {
		if !bytes.Equal(plainOp(a[i]), plainOp(b[i])) {
			return i
		}
	}
	return min(len(a), len(b))
}

func plainPair(a, b []byte) (first, second []api.Op, shared int, e api.Errno) {
	if first, e = plainLoad(a); e != api.OK {
		return nil, nil, 0, e
	}
	if second, e = plainLoad(b); e != api.OK {
		return nil, nil, 0, e
	}
	return first, second, plainShared(first, second), api.OK
}

func plainPatch(a, delta []byte) ([]byte, api.Errno) {
	ops, e := plainLoad(a)
	if e != api.OK {
		return nil, e
	}
	d := plainRead(delta, 2)
	if d.e != api.OK {
		return nil, d.e
	}
	if d.base != string(join(four(len(ops)), plainSum(plainOps(ops)))) {
		return nil, api.ErrApart
	}
	all := append(slices.Clone(ops), d.ops...)
	if _, e := viewOf(all); e != api.OK {
		return nil, e
	}
	return archiveOf(all...), api.OK
}

// allParts: all frames in bytes, whatever stands between them.
func allParts(b []byte) []part {
	var out []part
	for at := 0; at < len(b); {
		p, n, e := frame.First(b[at:])
		if e == api.OK {
			out = append(out, part{at, at + n, string(p)})
		}
		at += max(n, 1)
	}
	return out
}

func plainRescue(b []byte) ([]byte, int, api.Errno) {
	var ops []api.Op
	taken := map[int]bool{} // bytes
	for _, x := range allParts(b) {
		foot := x.payload == string(footPayload(ops))
		o, e := plainCommand(x.payload, len(ops))
		_, f := viewOf(append(slices.Clone(ops), o))
		switch {
		case x.payload == headPayload && len(taken) == 0, foot:
		case len(x.payload) > 0 && x.payload[0] == 'c' && e == api.OK && f == api.OK:
			ops = append(ops, o)
		default:
			continue
		}
		for i := x.lo; i < x.hi; i++ {
			taken[i] = true
		}
		if foot {
			break
		}
	}
	if len(taken) == 0 {
		return nil, 0, api.ErrFormat
	}
	return archiveOf(ops...), len(b) - len(taken), api.OK
}

// own: a copy with spare room behind it, which is watched too.
func own(b []byte) []byte {
	whole := append(bytes.Clone(b), bytes.Repeat([]byte{0xa5}, 20)...)
	return whole[:len(b)]
}

func untouched(t *testing.T, in, was []byte, call string) {
	t.Helper()
	if whole := in[:len(was)+20]; !bytes.Equal(whole[:len(was)], was) || !bytes.Equal(whole[len(was):], bytes.Repeat([]byte{0xa5}, 20)) {
		t.Fatalf("P22.1: %s has changed what it was handed", call)
	}
}

func sameOps(a, b []api.Op) bool { return slices.EqualFunc(a, b, op.Equal) }

func opsOf(t *testing.T, r *desk.Replica) []api.Op {
	t.Helper()
	ops, err := r.Ops(0, r.Len())
	if err != nil {
		t.Fatalf("chapter 8: %v", err)
	}
	return ops
}

// sameView: are two views the same in all that they tell?
func sameView(t *testing.T, a, b *desk.Replica) bool {
	t.Helper()
	return a.Text() == b.Text() && a.Len() == b.Len() && slices.Equal(a.Runs(), b.Runs()) && sameOps(opsOf(t, a), opsOf(t, b))
}

// holdsOne: the calls that ask one archive, against the oracle.
func holdsOne(t *testing.T, b []byte) {
	t.Helper()
	in := own(b)
	r := plainRead(b, 1)
	want := api.Summary{}
	if r.e == api.OK {
		want = api.Summary{Commands: len(r.ops), Cells: plainCells(r.ops), Sum: api.Sum(plainSum(plainOps(r.ops)))}
	}
	if s, e := archive.Tell(in); s != want || e != r.e {
		t.Fatalf("P22.3: Tell(%x) = %v, %d, want %v, %d", b, s, e, want, r.e)
	}
	holdsLoad(t, in)
	saved, lost, e := archive.Rescue(in)
	if s, l, f := plainRescue(b); !bytes.Equal(saved, s) || lost != l || e != f {
		t.Fatalf("P22.10: Rescue(%x) = %x, %d, %d, want %x, %d, %d", b, saved, lost, e, s, l, f)
	}
	untouched(t, in, b, "a call")
}

func holdsLoad(t *testing.T, b []byte) {
	t.Helper()
	ops, want := plainLoad(b)
	v, e := archive.Load(b)
	if e != want || (v == nil) != (want != api.OK) {
		t.Fatalf("P22.4: Load(%x): %d, want %d", b, e, want)
	}
	if w, _ := viewOf(ops); v != nil && !sameView(t, v, w) {
		t.Fatalf("P22.4: Load(%x): %q, want %q", b, v.Text(), w.Text())
	}
	if list, e := archive.Ops(b); e != want || !sameOps(list, ops) {
		t.Fatalf("P22.5: Ops(%x) = %v, %d, want %v, %d", b, list, e, ops, want)
	}
	for k := -1; k <= len(ops)+1; k++ {
		var part []byte
		f := want
		if f == api.OK && (k < 0 || k > len(ops)) {
			f = api.ErrPlace
		}
		if f == api.OK {
			part = archiveOf(ops[:k]...)
		}
		if got, e := archive.Cut(b, k); e != f || !bytes.Equal(got, part) {
			t.Fatalf("P22.6: Cut(%x, %d) = %x, %d, want %x, %d", b, k, got, e, part, f)
		}
	}
}

// holdsTwo: the calls that are handed two, against the oracle.
func holdsTwo(t *testing.T, a, b []byte) {
	t.Helper()
	x, y := own(a), own(b)
	first, second, shared, want := plainPair(a, b)
	var joined, delta []byte
	joinWant, deltaWant := want, want
	if want == api.OK {
		switch shared {
		case len(second):
			joined = archiveOf(first...)
		case len(first):
			joined = archiveOf(second...)
		default:
			joinWant = api.ErrApart
		}
		if shared == len(first) {
			delta = deltaOf(first, second[shared:])
		} else {
			deltaWant = api.ErrApart
		}
	}
	if got, n, e := archive.Join(x, y); !bytes.Equal(got, joined) || n != shared || e != joinWant {
		t.Fatalf("P22.7: Join(%x, %x) = %x, %d, %d, want %x, %d, %d", a, b, got, n, e, joined, shared, joinWant)
	}
	if got, e := archive.Delta(x, y); !bytes.Equal(got, delta) || e != deltaWant {
		t.Fatalf("P22.8: Delta(%x, %x) = %x, %d, want %x, %d", a, b, got, e, delta, deltaWant)
	}
	patched, patchWant := plainPatch(a, b)
	if got, e := archive.Patch(x, y); !bytes.Equal(got, patched) || e != patchWant {
		t.Fatalf("P22.9: Patch(%x, %x) = %x, %d, want %x, %d", a, b, got, e, patched, patchWant)
	}
	untouched(t, x, a, "a call")
	untouched(t, y, b, "a call")
}
