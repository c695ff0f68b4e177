package xform_test

import (
	"strings"
	"testing"

	"redraft/api"
	"redraft/xform"
)

var a1, a2, a3, b1, b2 = api.ID{1, 1}, api.ID{1, 2}, api.ID{1, 3}, api.ID{2, 1}, api.ID{2, 2}

// The end of all places: what just fits, and one more.
func TestTheEndOfAllPlaces(t *testing.T) {
	long := strings.Repeat("\u00e9", api.MaxText)
	for i, c := range []struct {
		a, b    api.Op
		earlier bool
		want    api.Op
		e       api.Errno
	}{
		{ins(a1, end-512, long), ins(b1, 0, long), true, ins(a1, end-256, long), api.OK},
		{ins(a1, end-511, long), ins(b1, 0, long), true, api.Op{}, api.ErrGrow},
		{ins(a1, end-256, long), ins(b1, end-256, "x"), true, api.Op{}, api.ErrGrow},
		{ins(a1, end-256, long), ins(b1, end-256, "x"), false, ins(a1, end-256, long), api.OK},
		{ins(a1, end-256, long), ins(b1, end-255, "x"), true, ins(a1, end-256, long), api.OK},
		{hide(a1, 0, end), ins(b1, end-1, "x"), true, api.Op{}, api.ErrGrow},
		{hide(a1, 0, end-1), ins(b1, end-1, "x"), true, hide(a1, 0, end-1), api.OK},
		{hide(a1, 0, end-1), ins(b1, 1, "x"), true, hide(a1, 0, 1, 2, end), api.OK},
		{show(a1, 0, 1, 3, end-1), ins(b1, 2, "xy"), true, api.Op{}, api.ErrGrow},
	} {
		got, e := xform.Include(c.a, c.b, c.earlier)
		sameOp(t, got, e, c.want, c.e, "P5.3: case %d: Include", i)
		got, e = xform.Over(c.a, c.earlier, c.b)
		sameOp(t, got, e, c.want, c.e, "P5.6: case %d: Over", i)
	}
	x, y, e := xform.Transpose(ins(a1, end-2, "a"), ins(b1, end-2, "b"))
	sameRun(t, []api.Op{x, y}, e, []api.Op{ins(b1, end-2, "b"), ins(a1, end-1, "a")}, api.OK, "P5.5: Transpose just ahead of the end")
	x, y, e = xform.Transpose(ins(a1, end-2, "ab"), ins(b1, 0, "c"))
	sameRun(t, []api.Op{x, y}, api.OK, []api.Op{{}, {}}, api.OK, "P5.1: Transpose over the end")
	if e != api.ErrGrow {
		t.Errorf("P5.5: Transpose over the end: %d", e)
	}
	got, e := xform.Exclude(hide(a1, 0, end-256), ins(b1, end-256, long))
	sameOp(t, got, e, hide(a1, 0, end-256), api.OK, "P5.4: Exclude at the end of all places")
}

// A full list that an insert cuts in two, or does not, and one that is put together again.
func TestTheMostRanges(t *testing.T) {
	full := hide(a1, teeth(api.MaxRanges)...)
	cut := hide(a1, teeth(api.MaxRanges)...)
	for i := range cut.Ranges[1:] {
		cut.Ranges[i+1].Lo++
		cut.Ranges[i+1].Hi++
	}
	got, e := xform.Include(full, ins(b1, 1, "x"), true)
	sameOp(t, got, e, api.Op{}, api.ErrMany, "P5.3: Include of a full list that is cut")
	for _, at := range []int{2, 3} {
		got, e = xform.Include(full, ins(b1, at, "x"), true)
		sameOp(t, got, e, cut, api.OK, "P5.3: Include of a full list, at %d", at)
	}
	got, e = xform.Exclude(cut, ins(b1, 2, "x"))
	sameOp(t, got, e, full, api.OK, "P5.4: Exclude of a full list")
	joined := hide(a1, teeth(api.MaxRanges)...)
	joined.Ranges = joined.Ranges[1:]
	joined.Ranges[0].Lo = 0
	for i := range joined.Ranges {
		joined.Ranges[i].Hi--
		if i > 0 {
			joined.Ranges[i].Lo--
		}
	}
	got, e = xform.Exclude(full, ins(b1, 2, "x"))
	sameOp(t, got, e, joined, api.OK, "P5.4: Exclude puts two ranges together")
	x, y, e := xform.Transpose(full, ins(b1, 1, "x"))
	if e != api.ErrMany {
		t.Errorf("P5.5: Transpose of a full list that is cut: %d", e)
	}
	sameRun(t, []api.Op{x, y}, api.OK, []api.Op{{}, {}}, api.OK, "P5.1: Transpose of a full list that is cut")
	run, e := xform.Bring([]api.Op{full, ins(b1, 3, "x"), ins(b2, 5, "y")}, 0, 1)
	sameRun(t, run, e, []api.Op{ins(b1, 3, "x"), cut, ins(b2, 5, "y")}, api.OK, "P5.8: Bring a full list")
	run, e = xform.Bring([]api.Op{full, ins(b1, 3, "x"), ins(b2, 5, "y")}, 0, 2)
	sameRun(t, run, e, nil, api.ErrMany, "P5.8: Bring a full list, cut by the second")
	f, l, e := xform.Cross([]api.Op{full}, []api.Op{ins(b1, 1, "x")})
	sameRun(t, append(f, l...), e, nil, api.ErrMany, "P5.7: Cross of a full list that is cut")
}

// Long runs end soon: a thousand over a thousand.
func TestLongRuns(t *testing.T) {
	var first, later []api.Op
	for i := range api.MaxOps {
		first = append(first, ins(api.ID{1, i + 1}, i, "a"))
		later = append(later, ins(api.ID{2, i + 1}, i, "b"))
	}
	f, l, e := xform.Cross(first, later)
	sameRun(t, f, e, first, api.OK, "P5.7: Cross of long runs, first")
	for i := range later {
		later[i].At += api.MaxOps
	}
	sameRun(t, l, e, later, api.OK, "P5.7: Cross of long runs, later")
	out, e := xform.Bring(first, api.MaxOps-1, 0)
	if e != api.OK || out[0].At != 0 || out[0].ID != first[api.MaxOps-1].ID || out[1].At != 0 || out[2].At != 1 {
		t.Errorf("P5.8: Bring of a long run's last: %d, %.3v", e, out[:3])
	}
}
