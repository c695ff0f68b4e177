package archive_test

import (
	"bytes"
	"math"
	"strings"
	"testing"

	"redraft/api"
	"redraft/archive"
	"redraft/desk"
)

// everyKind: commands of every kind, in an order; ranges that touch none, one and many cells, texts of runes of every length.
func everyKind() []api.Op {
	return []api.Op{
		ins(1, 1, 0, "abc"),
		ins(2, 1, 1, "\u00e9\u20ac\U0001f600\n\t"),
		hide(1, 2, 0, 1, 3, 5),
		status(3, 1, api.ID{1, 1}, false),
		status(3, 2, api.ID{1, 1}, true),
		status(8, 1024, api.ID{1, 2}, false),
		ins(8, 1023, 8, "end"),
		hide(2, 2, 0, 11),
		status(1, 3, api.ID{2, 2}, true),
		ins(1, 300, 4, strings.Repeat("\u20ac", 256)),
	}
}

func viewOfAll(t *testing.T, ops []api.Op) *desk.Replica {
	t.Helper()
	r, e := viewOf(ops)
	if e != api.OK {
		t.Fatalf("chapter 8: %d", e)
	}
	return r
}

func TestSaveNil(t *testing.T) {
	if b, e := archive.Save(nil); len(b) != 0 || e != api.ErrHandle {
		t.Errorf("P22.2: Save(nil) = %x, %d", b, e)
	}
}

func TestSaveEveryKind(t *testing.T) {
	ops := everyKind()
	for k := range len(ops) + 1 {
		r := viewOfAll(t, ops[:k])
		twin := viewOfAll(t, ops[:k])
		for range 2 {
			if b, e := archive.Save(r); e != api.OK || !bytes.Equal(b, archiveOf(ops[:k]...)) {
				t.Fatalf("P22.2: Save of %d commands = %x, %d, want %x", k, b, e, archiveOf(ops[:k]...))
			}
			if !sameView(t, r, twin) {
				t.Fatalf("P22.2: Save of %d commands has changed the view", k)
			}
		}
		holdsOne(t, archiveOf(ops[:k]...))
	}
}

// What has come in ahead of others is saved in the order, carried.
func TestSaveCarried(t *testing.T) {
	r := desk.NewReplica()
	put(t, r, 0, ins(1, 1, 0, "abcd"))
	put(t, r, 1, hide(1, 2, 1, 3))
	put(t, r, 1, ins(2, 1, 2, "XY"))
	put(t, r, 0, ins(3, 1, 0, "Z"))
	want := archiveOf(ins(3, 1, 0, "Z"), ins(1, 1, 1, "abcd"), ins(2, 1, 3, "XY"), hide(1, 2, 2, 3, 5, 6))
	if b, e := archive.Save(r); e != api.OK || !bytes.Equal(b, want) {
		t.Errorf("P22.2: Save = %x, %d, want %x", b, e, want)
	}
}

// The view that a desk embeds is a view too.
func TestSaveOfDesk(t *testing.T) {
	d, err := desk.New(2, api.Limits{Clients: 3, Cells: 99, Ops: 99})
	if err != nil {
		t.Fatal(err)
	}
	d.Insert(0, "hello")
	d.Delete(1, 3)
	d.Undo()
	d.Take(ins(1, 1, 0, ">"))
	b, e := archive.Save(&d.Replica)
	if want := archiveOf(ins(1, 1, 0, ">"), ins(2, 1, 1, "hello"), hide(2, 2, 2, 5), status(2, 3, api.ID{2, 2}, false)); e != api.OK || !bytes.Equal(b, want) {
		t.Errorf("P22.2: Save = %x, %d, want %x", b, e, want)
	}
	if d.Text() != ">hello" || d.Received() != 1 || len(d.Pending()) != 3 {
		t.Errorf("P22.2: Save has changed the desk: %q", d.Text())
	}
	v, e := archive.Load(b)
	if e != api.OK || !sameView(t, v, &d.Replica) {
		t.Errorf("P22.11: Load of Save of a desk: %d", e)
	}
}

// refused: commands of which a Replica refuses the last, and why.
type refused struct {
	ops []api.Op
	e   api.Errno
}

func refusedOps() []refused {
	ab := ins(1, 1, 0, "ab")
	return []refused{
		{[]api.Op{ins(1, 1, 1, "a")}, api.ErrPlace},
		{[]api.Op{hide(1, 1, 0, 1)}, api.ErrPlace},
		{[]api.Op{ab, ins(1, 2, 3, "c")}, api.ErrPlace},
		{[]api.Op{ab, hide(1, 2, 0, 1, 2, 3)}, api.ErrPlace},
		{[]api.Op{ab, hide(2, 1, 1048575, 1048576)}, api.ErrPlace},
		{[]api.Op{ab, ins(2, 1, 1048576-2, "cd")}, api.ErrPlace},
		{[]api.Op{ab, ab}, api.ErrTwice},
		{[]api.Op{ab, hide(1, 1, 0, 1)}, api.ErrTwice},
		{[]api.Op{ab, ins(2, 1, 0, "c"), status(2, 1, api.ID{1, 1}, false)}, api.ErrTwice},
		{[]api.Op{status(1, 1, api.ID{1, 2}, false)}, api.ErrUnknown},
		{[]api.Op{ab, status(2, 1, api.ID{1, 2}, true)}, api.ErrUnknown},
		{[]api.Op{ab, status(2, 1, api.ID{1, 1}, false), status(2, 2, api.ID{2, 1}, false)}, api.ErrTarget},
	}
}

// What a Replica refuses: Tell takes it, all other calls answer the Replica's number. Of two that are refused the first is told.
func TestRefusedByReplica(t *testing.T) {
	for _, c := range refusedOps() {
		fine := c.ops[:len(c.ops)-1]
		if _, e := viewOf(fine); e != api.OK {
			t.Fatalf("chapter 8: %d", e)
		}
		for _, more := range [][]api.Op{nil, {ins(7, 1, 0, "more")}, {ins(7, 1, 1000, "far")}, {status(7, 1, api.ID{8, 8}, true)}} {
			ops := append(append([]api.Op{}, c.ops...), more...)
			b := archiveOf(ops...)
			want := api.Summary{Commands: len(ops), Cells: plainCells(ops), Sum: api.Sum(plainSum(plainOps(ops)))}
			if s, e := archive.Tell(b); s != want || e != api.OK {
				t.Errorf("P22.3: Tell of %v = %v, %d, want %v", ops, s, e, want)
			}
			askRefused(t, b, c.e)
			// The error of reading, wherever it is, comes first.
			torn := b[:len(b)-1]
			askArchive(t, "torn too", torn, api.ErrShort)
			askArchive(t, "with a tail too", join(b, []byte{0}), api.ErrTail)
			holdsOne(t, b)
			holdsTwo(t, archiveOf(fine...), deltaOf(fine, ops[len(fine):]))
			if p, e := archive.Patch(archiveOf(fine...), deltaOf(fine, ops[len(fine):])); len(p) != 0 || e != c.e {
				t.Errorf("P22.9: Patch with %v behind %v: %x, %d, want %d", ops[len(fine):], fine, p, e, c.e)
			}
		}
	}
}

// askRefused: all calls but Tell answer e and nothing else.
func askRefused(t *testing.T, b []byte, e api.Errno) {
	t.Helper()
	right := archiveOf(ins(5, 1, 0, "right"))
	if v, f := archive.Load(b); v != nil || f != e {
		t.Errorf("P22.4: Load: %d, want %d", f, e)
	}
	if l, f := archive.Ops(b); len(l) != 0 || f != e {
		t.Errorf("P22.5: Ops = %v, %d, want %d", l, f, e)
	}
	for _, k := range []int{math.MinInt, -1, 0, 1, 99, math.MaxInt} {
		if c, f := archive.Cut(b, k); len(c) != 0 || f != e {
			t.Errorf("P22.6: Cut(.., %d) = %x, %d, want %d", k, c, f, e)
		}
	}
	for _, pair := range [][2][]byte{{b, right}, {right, b}, {b, b}, {b, nil}} {
		if j, n, f := archive.Join(pair[0], pair[1]); len(j) != 0 || n != 0 || f != e {
			t.Errorf("P22.7: Join = %x, %d, %d, want %d", j, n, f, e)
		}
		if d, f := archive.Delta(pair[0], pair[1]); len(d) != 0 || f != e {
			t.Errorf("P22.8: Delta = %x, %d, want %d", d, f, e)
		}
	}
	for _, d := range [][]byte{nil, b, deltaOf(nil, nil)} {
		if p, f := archive.Patch(b, d); len(p) != 0 || f != e {
			t.Errorf("P22.9: Patch = %x, %d, want %d", p, f, e)
		}
	}
}

func TestCut(t *testing.T) {
	ops := everyKind()
	b := archiveOf(ops...)
	for k := range len(ops) + 1 {
		if part, e := archive.Cut(b, k); e != api.OK || !bytes.Equal(part, archiveOf(ops[:k]...)) {
			t.Errorf("P22.6: Cut(.., %d) = %x, %d", k, part, e)
		}
	}
	for _, k := range []int{math.MinInt, math.MinInt + 1, -1 << 32, -len(ops), -2, -1, len(ops) + 1, len(ops) + 2, 1 << 16, 1 << 32, 1<<32 + 1, math.MaxInt - 1, math.MaxInt} {
		if part, e := archive.Cut(b, k); e != api.ErrPlace || len(part) != 0 {
			t.Errorf("P22.6: Cut(.., %d) = %x, %d, want ErrPlace", k, part, e)
		}
	}
	if part, e := archive.Cut(archiveOf(), 0); e != api.OK || !bytes.Equal(part, archiveOf()) {
		t.Errorf("P22.6: Cut of the empty archive = %x, %d", part, e)
	}
	for _, k := range []int{-1, 1, math.MaxInt} {
		if part, e := archive.Cut(archiveOf(), k); e != api.ErrPlace || len(part) != 0 {
			t.Errorf("P22.6: Cut(empty, %d) = %x, %d, want ErrPlace", k, part, e)
		}
		if part, e := archive.Cut(b[:50], k); e != api.ErrShort || len(part) != 0 {
			t.Errorf("P22.6: Cut(torn, %d) = %x, %d, want ErrShort", k, part, e)
		}
	}
}
