package xform_test

import (
	"testing"

	"redraft/api"
	"redraft/xform"
)

// The chapter's examples, in its order.

func TestExamplesOfInclude(t *testing.T) {
	for i, c := range []struct {
		a, b    api.Op
		earlier bool
		want    api.Op
	}{
		{ins(a1, 3, "xy"), ins(b1, 1, "abc"), true, ins(a1, 6, "xy")},
		{ins(a1, 3, "xy"), ins(b1, 3, "abc"), true, ins(a1, 6, "xy")},
		{ins(a1, 3, "xy"), ins(b1, 3, "abc"), false, ins(a1, 3, "xy")},
		{hide(a1, 2, 5), ins(b1, 3, "ab"), false, hide(a1, 2, 3, 5, 7)},
		{hide(a1, 2, 5), ins(b1, 3, "ab"), true, hide(a1, 2, 3, 5, 7)},
		{hide(a1, 2, 5), ins(b1, 2, "ab"), false, hide(a1, 4, 7)},
		{hide(a1, 2, 5), ins(b1, 5, "ab"), true, hide(a1, 2, 5)},
		{ins(a1, 3, "x"), hide(b1, 0, 9), true, ins(a1, 3, "x")},
	} {
		got, e := xform.Include(c.a, c.b, c.earlier)
		sameOp(t, got, e, c.want, api.OK, "example %d: Include", i)
	}
}

func TestExamplesOfExclude(t *testing.T) {
	for i, c := range []struct {
		a, b, want api.Op
		e          api.Errno
	}{
		{ins(a1, 3, "x"), ins(b1, 3, "abc"), ins(a1, 3, "x"), api.OK},
		{ins(a1, 6, "x"), ins(b1, 3, "abc"), ins(a1, 3, "x"), api.OK},
		{ins(a1, 5, "x"), ins(b1, 3, "abc"), api.Op{}, api.ErrInside},
		{hide(a1, 2, 3, 6, 8), ins(b1, 3, "abc"), hide(a1, 2, 5), api.OK},
		{hide(a1, 2, 4), ins(b1, 3, "abc"), api.Op{}, api.ErrInside},
	} {
		got, e := xform.Exclude(c.a, c.b)
		sameOp(t, got, e, c.want, c.e, "example %d: Exclude", i)
	}
}

func TestExamplesOfTranspose(t *testing.T) {
	for i, c := range []struct {
		a, b, b1, a1 api.Op
		e            api.Errno
	}{
		{ins(a1, 3, "abc"), ins(b1, 3, "x"), ins(b1, 3, "x"), ins(a1, 4, "abc"), api.OK},
		{ins(a1, 3, "abc"), ins(b1, 6, "x"), ins(b1, 3, "x"), ins(a1, 3, "abc"), api.OK},
		{hide(a1, 2, 5), ins(b1, 3, "x"), ins(b1, 3, "x"), hide(a1, 2, 3, 4, 6), api.OK},
		{ins(a1, 0, "a"), status(b1, a1, false), api.Op{}, api.Op{}, api.ErrInside},
	} {
		x, y, e := xform.Transpose(c.a, c.b)
		sameOp(t, x, e, c.b1, c.e, "example %d: Transpose, b1", i)
		sameOp(t, y, e, c.a1, c.e, "example %d: Transpose, a1", i)
	}
}

func TestExamplesOfRuns(t *testing.T) {
	first, later := []api.Op{ins(a1, 2, "E")}, []api.Op{ins(b1, 2, "L"), ins(b2, 2, "M")}
	f, l, e := xform.Cross(first, later)
	sameRun(t, f, e, []api.Op{ins(a1, 2, "E")}, api.OK, "example of Cross, first")
	sameRun(t, l, e, []api.Op{ins(b1, 3, "L"), ins(b2, 3, "M")}, api.OK, "example of Cross, later")
	for _, r := range []row{context(2).behind(first...).behind(l...), context(2).behind(later...).behind(f...)} {
		if r[2].Rune != 'E' || r[3].Rune != 'M' || r[4].Rune != 'L' {
			t.Errorf("example of Cross: they make %v", r)
		}
	}
	run := []api.Op{ins(a1, 0, "abc"), ins(a2, 3, "d"), hide(a3, 3, 4)}
	got, e := xform.Bring(run, 0, 2)
	sameRun(t, got, e, []api.Op{ins(a2, 0, "d"), hide(a3, 0, 1), ins(a1, 0, "abc")}, api.OK, "example of Bring")
	got, e = xform.Bring([]api.Op{ins(a1, 0, "abc"), ins(a2, 1, "d")}, 1, 0)
	sameRun(t, got, e, nil, api.ErrInside, "example of Bring")
	got, e = xform.Bring([]api.Op{ins(a1, 0, "abc")}, 0, 1)
	sameRun(t, got, e, nil, api.ErrPlace, "example of Bring")
	for _, c := range [][2]int{{3, 3}, {2, 4}} {
		if gap, e := xform.Caret(3, ins(a1, c[0], "x")); gap != c[1] || e != api.OK {
			t.Errorf("example of Caret: %d, %d, want %d", gap, e, c[1])
		}
	}
}
