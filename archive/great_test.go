package archive_test

import (
	"bytes"
	"strings"
	"testing"

	"redraft/api"
	"redraft/archive"
	"redraft/desk"
)

// allIds: one command of every client and number there is: as many as a view may hold.
func allIds() []api.Op {
	var out []api.Op
	for n := 1; n <= api.MaxOps; n++ {
		for c := 1; c <= api.MaxClients; c++ {
			switch {
			case n == 1:
				out = append(out, ins(c, n, 0, "ab"))
			case n%64 == 0:
				out = append(out, hide(c, n, n/64-1, n/64))
			default:
				out = append(out, status(c, n, api.ID{1 + n%8, 1}, n%3 == 0))
			}
		}
	}
	return out
}

// A view that is full: as many commands as it may hold. One more is refused by Load and lost by Rescue.
func TestMostCommands(t *testing.T) {
	ops := allIds()
	b := archiveOf(ops...)
	v := loaded(t, b)
	if v.Len() != 8192 || !bytes.Equal(saved(t, v), b) {
		t.Fatalf("P22.11: %d commands have come back", v.Len())
	}
	want := api.Summary{Commands: 8192, Cells: 16, Sum: api.Sum(plainSum(plainOps(ops)))}
	if s, e := archive.Tell(b); s != want || e != api.OK {
		t.Errorf("P22.3: Tell = %v, %d, want %v", s, e, want)
	}
	if s, n, e := archive.Rescue(b[:len(b)-1]); !bytes.Equal(s, b) || n != 24 || e != api.OK {
		t.Errorf("P22.10: Rescue: %d bytes, %d lost, %d", len(s), n, e)
	}
	more := append(allIds(), ops[5])
	list := frames(more...)
	x := join(list...)
	if s, e := archive.Tell(x); s.Commands != 8193 || e != api.OK {
		t.Errorf("P22.3: Tell of one more = %v, %d", s, e)
	}
	if v, e := archive.Load(x); v != nil || e != api.ErrOps {
		t.Errorf("P22.4: Load of one more: %d, want ErrOps", e)
	}
	lost := len(list[8193]) + len(list[8194])
	if s, n, e := archive.Rescue(x); !bytes.Equal(s, b) || n != lost || e != api.OK {
		t.Errorf("P22.10: Rescue of one more: %d bytes, %d lost, %d, want %d lost", len(s), n, e, lost)
	}
	if p, e := archive.Patch(b, deltaOf(ops, ops[5:6])); len(p) != 0 || e != api.ErrOps {
		t.Errorf("P22.9: Patch with one more: %d, want ErrOps", e)
	}
	half, e := archive.Cut(b, 4096)
	if e != api.OK || !bytes.Equal(half, archiveOf(ops[:4096]...)) {
		t.Errorf("P22.6: Cut: %d", e)
	}
	if d, e := archive.Delta(half, b); e != api.OK || !bytes.Equal(d, deltaOf(ops[:4096], ops[4096:])) {
		t.Errorf("P22.8: Delta: %d", e)
	}
}

// wide: a view with n cells, and a Hide of every second one of the first 2k.
func wide(n, k int) []api.Op {
	var out []api.Op
	for at := 0; at < n; at += api.MaxText {
		i := len(out)
		out = append(out, ins(1+i%8, 1+i/8, at, strings.Repeat("\u20ac", min(api.MaxText, n-at))))
	}
	h := api.Op{Head: api.Head{ID: api.ID{8, 1000}, Kind: api.Hide}}
	for i := range k {
		h.Ranges = append(h.Ranges, api.Range{Lo: 2 * i, Hi: 2*i + 1})
	}
	return append(out, h)
}

// The command of the most bytes that a view may hold goes in a frame, and comes back.
func TestMostRanges(t *testing.T) {
	ops := wide(70000, api.MaxRanges)
	v := viewOfAll(t, ops)
	b := saved(t, v)
	if !bytes.Equal(b, archiveOf(ops...)) {
		t.Fatal("P22.2: Save of a Hide of the most ranges")
	}
	if s, e := archive.Tell(b); s.Cells != 70000 || s.Commands != len(ops) || e != api.OK {
		t.Errorf("P22.3: Tell = %v, %d", s, e)
	}
	if w := loaded(t, b); !sameView(t, v, w) {
		t.Error("P22.11: a Hide of the most ranges has come back as another")
	}
	// An insert that splits one of so many ranges is refused by the view, and so by what loads.
	last := len(ops) - 1
	ops[last].Ranges[api.MaxRanges-1].Hi += 2
	split := append(ops, ins(7, 1000, 2*api.MaxRanges-1, "x"))
	if _, e := archive.Load(archiveOf(split...)); e != api.ErrMany {
		t.Errorf("P22.4: Load of an insert within the last of the most ranges: %d, want ErrMany", e)
	}
	if s, n, e := archive.Rescue(archiveOf(split...)); !bytes.Equal(s, archiveOf(ops...)) || e != api.OK || n != len(commandFrame(0, split[last+1]))+25 {
		t.Errorf("P22.10: Rescue of an insert within the last of the most ranges: %d lost, %d", n, e)
	}
}

// As many cells as there are places.
func TestMostCells(t *testing.T) {
	var ops []api.Op
	for i := range api.MaxPlace / api.MaxText {
		ops = append(ops, ins(1+i%8, 1+i/8, i*api.MaxText, strings.Repeat("a", api.MaxText)))
	}
	b := archiveOf(ops...)
	if s, e := archive.Tell(b); s.Cells != 1<<20 || s.Commands != 4096 || e != api.OK {
		t.Errorf("P22.3: Tell = %v, %d", s, e)
	}
	if v := loaded(t, b); v.Total() != 1<<20 || !bytes.Equal(saved(t, v), b) {
		t.Errorf("P22.11: %d cells have come back", v.Total())
	}
	more := append(ops, ins(8, 1000, 0, "x"))
	if s, e := archive.Tell(archiveOf(more...)); s.Cells != 1<<20+1 || e != api.OK {
		t.Errorf("P22.3: Tell of one cell more = %v, %d", s, e)
	}
	if _, e := archive.Load(archiveOf(more...)); e != api.ErrGrow {
		t.Errorf("P22.4: Load of one cell more: %d, want ErrGrow", e)
	}
}

// More cells than three bytes tell. No view holds so many; what is said of them is asked all the same.
func TestCellsOfFourBytes(t *testing.T) {
	o := ins(1, 1, 0, strings.Repeat("a", api.MaxText))
	const n = 1<<24/api.MaxText + 1
	all := bytes.Repeat(plainOp(o), n)
	b := headFrame()
	for i := range n {
		b = append(b, commandFrame(i, o)...)
	}
	sum := plainSum(all)
	foot := framed([]byte("e"), four(n, n*api.MaxText), sum)
	if s, e := archive.Tell(join(b, foot)); s != (api.Summary{Commands: n, Cells: 1<<24 + api.MaxText, Sum: api.Sum(sum)}) || e != api.OK {
		t.Errorf("P22.3: Tell = %v, %d", s, e)
	}
	if _, e := archive.Tell(join(b, framed([]byte("e"), four(n, api.MaxText), sum))); e != api.ErrCount {
		t.Errorf("P22.3: Tell, 2^24 cells fewer: %d, want ErrCount", e)
	}
	if _, e := archive.Load(join(b, foot)); e != api.ErrTwice {
		t.Errorf("P22.4: Load: %d, want ErrTwice", e)
	}
}

// Bytes that are full of beginnings of frames end too.
func TestManyBeginnings(t *testing.T) {
	for _, b := range [][]byte{
		bytes.Repeat([]byte{0xc7}, 1<<18), bytes.Repeat([]byte{0xc7, 0x9d}, 1<<17), bytes.Repeat(unguarded(100)[:8], 1<<14), bytes.Repeat(unguarded(api.MaxPayload)[:8], 1<<12),
	} {
		if s, n, e := archive.Rescue(b); len(s) != 0 || n != 0 || e != api.ErrFormat {
			t.Errorf("P22.10: Rescue of %x..: %x, %d, %d", b[:8], s, n, e)
		}
		a := archiveOf(readA)
		if s, n, e := archive.Rescue(join(b, a, b)); !bytes.Equal(s, a) || n != 2*len(b) || e != api.OK {
			t.Errorf("P22.10: Rescue of %x.., an archive, and that again: %x, %d, %d", b[:8], s, n, e)
		}
	}
	list := bytes.Repeat(framed(), 5000)
	if s, n, e := archive.Rescue(join(list, footFrame())); !bytes.Equal(s, archiveOf()) || n != len(list) || e != api.OK {
		t.Errorf("P22.10: Rescue of many frames: %x, %d, %d", s, n, e)
	}
	if _, e := archive.Load(append(headFrame(), list...)); e != api.ErrFormat {
		t.Errorf("P22.4: Load of many frames: %d", e)
	}
}

// Save of a view that a Replica has grown to its end in the middle.
func TestSaveMostInTheMiddle(t *testing.T) {
	r := desk.NewReplica()
	for i := range 300 {
		put(t, r, i/2, ins(1+i%8, 1+i/8, 0, "xy"))
	}
	put(t, r, 150, hide(8, 1000, 0, 300))
	b := saved(t, r)
	if v := loaded(t, b); !sameView(t, v, r) || !bytes.Equal(b, archiveOf(opsOf(t, r)...)) {
		t.Error("P22.11: a view that was put together in its middle has come back as another")
	}
}
