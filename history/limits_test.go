package history_test

import (
	"strings"
	"testing"

	"redraft/api"
	"redraft/history"
)

const end = api.MaxPlace

// idOf: the k-th of many ids.
func idOf(k int) (client, number int) { return k/api.MaxOps + 1, k%api.MaxOps + 1 }

// filled: total cells, as long inserts, each at the end.
func filled(t *testing.T, total int) *history.History {
	t.Helper()
	h := history.New()
	for k := 0; h.Total() < total; k++ {
		client, number := idOf(k)
		put(t, h, k, ins(client, number, h.Total(), strings.Repeat("\u00e9", min(api.MaxText, total-h.Total()))))
	}
	return h
}

// put: a Put that must be taken.
func put(t *testing.T, h *history.History, i int, o api.Op) api.Op {
	t.Helper()
	x, e := h.Put(i, o)
	if e != api.OK {
		t.Fatal(cut("P6.3: Put(%d, %v) is refused with %d", i, o, int(e)))
	}
	return x
}

// told: all that a history tells of itself but the long texts.
func told(h *history.History) string {
	var out []any
	for i := range h.Len() {
		x, _ := h.Entry(i)
		out = append(out, x.ID, x.On, len(x.Ranges), x.Ranges[:min(3, len(x.Ranges))])
	}
	return cut(strings.Repeat("%v ", len(out)+2), append(out, h.Len(), h.Total())...)
}

// still: a Put is refused and changes nothing.
func still(t *testing.T, h *history.History, i int, o api.Op, f api.Errno) {
	t.Helper()
	was := told(h)
	at, known := h.Find(o.ID)
	x, e := h.Put(i, o)
	sameOp(t, x, e, nothing, f, "P6.3: Put(%d, %v)", i, o)
	if now := told(h); now != was {
		t.Error(cut("P6.1: refused, Put(%d, %v) has changed the history", i, o))
	}
	n, e := h.Find(o.ID)
	sameNumber(t, n, e, at, known, "P6.1: refused, Find of %v", o)
}

func TestP6_3TheEndOfAllPlaces(t *testing.T) {
	h := filled(t, end-2)
	n := h.Len()
	still(t, h, 0, ins(8, 1, 0, "abc"), api.ErrGrow)
	still(t, h, n/2, ins(8, 1, 0, "abc"), api.ErrGrow)
	still(t, h, n, ins(8, 1, 0, "abc"), api.ErrGrow)
	x := put(t, h, 1, ins(8, 1, 256, "a"))
	sameOp(t, x, api.OK, effect(api.Ins, 256, "a"), api.OK, "P6.3: the last but one cell")
	x = put(t, h, 0, ins(8, 2, 0, "b"))
	sameOp(t, x, api.OK, effect(api.Ins, 0, "b"), api.OK, "P6.3: the last cell")
	sameNumber(t, h.Total(), api.OK, end, api.OK, "P6.2: Total of a full history")
	n = h.Len()
	last, e := h.Entry(n - 1)
	sameEntry(t, last, e, api.Entry{ID: last.ID, Kind: api.Ins, On: true, Ranges: list(end-254, end)}, api.OK, "P6.4: the last insert of a full history")
	still(t, h, 0, ins(8, 3, 0, "c"), api.ErrGrow)
	still(t, h, n, ins(8, 3, 0, "c"), api.ErrGrow)
	still(t, h, 0, ins(8, 1, 0, "c"), api.ErrTwice) // named ahead of ErrGrow
	still(t, h, 0, ins(0, 0, 0, "c"), api.ErrID)
	still(t, h, n, ins(0, 0, 0, "c"), api.ErrGrow) // op.Check's, named ahead of ErrID
	still(t, h, n, ins(8, 1, 0, "c"), api.ErrGrow)
	still(t, h, n, ins(8, 3, end+1, "c"), api.ErrPlace)
	x = put(t, h, n, hide(8, 3, 0, 1, 2, end))
	sameOp(t, x, api.OK, effect(api.Hide, 0, "", 0, 1, 2, end), api.OK, "P6.3: a Hide in a full history")
	x = put(t, h, n+1, status(8, 4, api.ID{8, 3}, false))
	sameOp(t, x, api.OK, effect(api.Show, 0, "", 0, 1, 2, end), api.OK, "P6.3: a Status in a full history")
	left, e := h.Erase(api.ID{8, 3})
	if e != api.OK || len(left) != n {
		t.Errorf("P6.8: Erase in a full history: %d commands, %d", len(left), e)
	}
}

// The cell that would pass the end may be an earlier command's, which nothing is carried over.
func TestP6_3TheEndOfAllPlacesOfAnEarlierOne(t *testing.T) {
	h := history.New()
	put(t, h, 0, ins(1, 1, 0, "az"))
	for k := 1; h.Total() < end-2; k++ {
		client, number := idOf(k)
		put(t, h, k, ins(client, number, h.Total()-1, strings.Repeat("m", min(api.MaxText, end-2-h.Total()))))
	}
	still(t, h, 1, ins(8, 1, 0, "abc"), api.ErrGrow)
	put(t, h, 1, ins(8, 1, 0, "ab"))
	x, e := h.Entry(0)
	sameEntry(t, x, e, api.Entry{ID: api.ID{1, 1}, Kind: api.Ins, On: true, Ranges: list(2, 3, end-1, end)}, api.OK, "P6.4: the last cell of all")
}

// comb: as many ranges as a list may have, in 2 * MaxRanges cells; the first one has two places.
func comb(client, number int) api.Op {
	out := hide(client, number, 0, 2)
	for k := 1; k < api.MaxRanges; k++ {
		out.Ranges = append(out.Ranges, api.Range{Lo: 2*k + 1, Hi: 2*k + 2})
	}
	return out
}

const combed = 2 * api.MaxRanges

func TestP6_3TooManyRanges(t *testing.T) {
	h := filled(t, combed)
	n := h.Len()
	x := put(t, h, n, comb(8, 1))
	want := comb(0, 0)
	sameOp(t, x, api.OK, want, api.OK, "P6.3: a Hide of as many ranges as may be")
	put(t, h, n+1, hide(8, 2, 0, 3)) // one that would not be too many
	// behind it, just ahead of it, and far ahead of it
	still(t, h, n+2, ins(8, 3, 1, "x"), api.ErrMany)
	still(t, h, n+1, ins(8, 3, 1, "xyz"), api.ErrMany)
	still(t, h, n, ins(8, 3, 1, "x"), api.ErrMany)
	still(t, h, 1, ins(8, 3, 1, "x"), api.ErrMany)
	still(t, h, n, ins(8, 1, 1, "x"), api.ErrTwice) // named ahead of ErrMany
	still(t, h, n, ins(0, 0, 1, "x"), api.ErrID)
	put(t, h, n+2, status(8, 3, api.ID{8, 1}, false))
	still(t, h, n+3, ins(8, 4, 1, "x"), api.ErrMany) // also of one that is off
	// beside the range of two places, and between two ranges
	for k, at := range []int{0, 3, 3, combed} {
		put(t, h, n+3+k, ins(8, 4+k, at, "x"))
		last, e := h.Entry(n)
		if e != api.OK || len(last.Ranges) != api.MaxRanges {
			t.Errorf("P6.4: %d ranges behind an insert at %d, %d", len(last.Ranges), at, e)
		}
	}
	still(t, h, n+7, ins(8, 8, 2, "x"), api.ErrMany) // where the two places are now
	still(t, h, n+1, ins(8, 8, 1, "x"), api.ErrMany) // where they were behind the Hide
	still(t, h, n, ins(8, 8, 1, "x"), api.ErrMany)   // and ahead of it
	run, e := h.Ops(n, n+1)
	sameRun(t, run, e, []api.Op{comb(8, 1)}, api.OK, "P6.7: the Hide in its context")
}

// The command itself: right where it was made, too many ranges today.
func TestP6_3TooManyRangesOfItsOwn(t *testing.T) {
	h := filled(t, combed)
	n := h.Len()
	put(t, h, n, ins(8, 1, 1, "x"))
	still(t, h, n, comb(8, 2), api.ErrMany)
	too := comb(8, 2)
	too.Ranges = append(too.Ranges, api.Range{Lo: combed + 1, Hi: combed + 2})
	still(t, h, n+1, too, api.ErrMany) // op.Check's
	less := comb(8, 2)
	less.Ranges = less.Ranges[:api.MaxRanges-1]
	x := put(t, h, n, less)
	if x.Kind != api.Hide || len(x.Ranges) != api.MaxRanges || x.Ranges[0] != (api.Range{Lo: 0, Hi: 1}) || x.Ranges[1] != (api.Range{Lo: 2, Hi: 3}) || x.Ranges[2] != (api.Range{Lo: 4, Hi: 5}) {
		t.Error(cut("P6.3: the effect of a Hide that is split: %d, %v", len(x.Ranges), x))
	}
	left, e := h.Erase(api.ID{8, 1})
	if e != api.OK || len(left) != n+1 || len(left[n].Ranges) != api.MaxRanges-1 {
		t.Error(cut("P6.8: Erase of what splits it: %d, %v", len(left), int(e)))
	}
}

// All commands that eight clients may make, most of them typed at the end, the last ones put in ahead of all: they end soon.
func TestManyCommands(t *testing.T) {
	h := history.New()
	n, ahead := api.MaxClients*api.MaxOps, 128
	for k := range n - ahead {
		client, number := idOf(k)
		put(t, h, k, ins(client, number, k, "a"))
	}
	for k := range ahead {
		put(t, h, 0, ins(8, api.MaxOps-k, 0, "b"))
	}
	sameNumber(t, h.Len(), api.OK, n, api.OK, "P6.2: Len of many")
	for id, want := range map[api.ID]int{{8, 1024}: ahead - 1, {8, 897}: 0, {1, 1}: ahead, {8, 896}: n - 1} {
		at, e := h.Find(id)
		sameNumber(t, at, e, want, api.OK, "P6.5: Find(%v) of many", id)
		x, e := h.Entry(at)
		sameEntry(t, x, e, api.Entry{ID: id, Kind: api.Ins, On: true, Ranges: list(want, want+1)}, api.OK, "P6.4: Entry(%d) of many", at)
	}
	sameNumber(t, h.Last(8), api.OK, 1024, api.OK, "P6.9: Last of many")
}
