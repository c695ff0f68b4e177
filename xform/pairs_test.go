package xform_test

import (
	"math"
	"testing"

	"redraft/api"
	"redraft/op"
	"redraft/xform"
)

var texts = []string{"x", "\u00e9y", "abc"}

// bodies: right operations of all kinds around the beginning and the end of all places; ids are given to them later.
func bodies() []api.Op {
	var out []api.Op
	for _, text := range texts {
		for at := 0; at <= 6; at++ {
			out = append(out, ins(none, at, text))
		}
		for at := end - 7; at <= end-len([]rune(text)); at++ {
			out = append(out, ins(none, at, text))
		}
	}
	for _, base := range []int{0, end - 5} {
		for bits := 1; bits < 32; bits++ {
			var at []int
			for q := range 5 {
				if bits>>q&1 == 1 {
					at = append(at, base+q)
				}
			}
			out = append(out, cover(none, api.Kind(2+bits%2), rangesOf(at)...))
		}
	}
	for _, target := range []api.ID{{1, 1}, {2, 1}, {3, 1}} {
		out = append(out, status(none, target, false), status(none, target, true))
	}
	return out
}

// eachPair: every two bodies with ids that are unlike, alike, and ID{}; an operation that is not right with its id is left out.
func eachPair(do func(a, b api.Op)) {
	all := bodies()
	for _, ids := range [][2]api.ID{{{1, 1}, {2, 1}}, {{1, 1}, {1, 1}}, {none, none}, {none, {1, 1}}, {{2, 1}, none}} {
		for _, a := range all {
			for _, b := range all {
				a, b := withID(a, ids[0]), withID(b, ids[1])
				if right(a) && right(b) {
					do(a, b)
				}
			}
		}
	}
}

func right(o api.Op) bool {
	return o.Kind != api.Status || o.Target != o.ID
}

func TestP5_3EveryPair(t *testing.T) {
	eachPair(func(a, b api.Op) {
		for _, earlier := range []bool{false, true} {
			want, f := wantInclude(a, b, earlier)
			got, e := xform.Include(a, b, earlier)
			sameOp(t, got, e, want, f, "P5.3: Include(%v, %v, %v)", a, b, earlier)
		}
	})
}

func TestP5_4EveryPair(t *testing.T) {
	eachPair(func(a, b api.Op) {
		want, f := wantExclude(a, b)
		got, e := xform.Exclude(a, b)
		sameOp(t, got, e, want, f, "P5.4: Exclude(%v, %v)", a, b)
	})
}

func TestP5_5EveryPair(t *testing.T) {
	eachPair(func(a, b api.Op) {
		c, d, f := wantTranspose(a, b)
		x, y, e := xform.Transpose(a, b)
		sameOp(t, x, e, c, f, "P5.5: Transpose(%v, %v), b1", a, b)
		sameOp(t, y, e, d, f, "P5.5: Transpose(%v, %v), a1", a, b)
	})
}

// The pairs hold each error that the calls have, or the three tests above would say little of it.
func TestEveryPairMeetsEveryError(t *testing.T) {
	var include, exclude, transpose [64]int
	eachPair(func(a, b api.Op) {
		_, e := xform.Include(a, b, true)
		include[e]++
		_, e = xform.Exclude(a, b)
		exclude[e]++
		_, _, e = xform.Transpose(a, b)
		transpose[e]++
	})
	for _, n := range []int{
		include[api.OK], include[api.ErrClash], include[api.ErrGrow], exclude[api.OK], exclude[api.ErrClash], exclude[api.ErrInside],
		transpose[api.OK], transpose[api.ErrClash], transpose[api.ErrInside], transpose[api.ErrGrow],
	} {
		if n < 100 {
			t.Errorf("met %v, %v, %v", include, exclude, transpose)
		}
	}
}

// P5.1: places alone move.
func TestP5_1PlacesAloneMove(t *testing.T) {
	still := func(o api.Op) api.Op {
		o.At, o.Ranges = 0, nil
		return o
	}
	kept := func(got, was api.Op, e api.Errno, call string) {
		if e == api.OK && !op.Equal(still(got), still(was)) {
			t.Errorf("P5.1: %s makes %v of %v", call, got, was)
		}
	}
	eachPair(func(a, b api.Op) {
		got, e := xform.Include(a, b, true)
		kept(got, a, e, "Include")
		got, e = xform.Exclude(a, b)
		kept(got, a, e, "Exclude")
		x, y, e := xform.Transpose(a, b)
		kept(x, b, e, "Transpose")
		kept(y, a, e, "Transpose")
	})
}

func TestP5_9EveryGap(t *testing.T) {
	for _, o := range append(bodies(), ins(none, 0, string(make257()[1:]))) {
		for _, c := range []int{math.MinInt, -1, 0, 1, 2, 3, 4, 5, 6, 7, 8, 1000, end - 256, end - 255, end - 7, end - 5, end - 4, end - 3, end - 2, end - 1, end, end + 1, math.MaxInt} {
			want, f := c, api.OK
			if o.Kind == api.Ins && o.At < c {
				want += runes(o)
			}
			if c < 0 || c > end {
				f = api.ErrPlace
			} else if want > end {
				f = api.ErrGrow
			}
			if f != api.OK {
				want = 0
			}
			if got, e := xform.Caret(c, o); got != want || e != f {
				t.Error(cut("P5.9: Caret(%d, %v) = %d, %d, want %d, %d", c, o, got, int(e), want, int(f)))
			}
		}
	}
}

// P5.2: a's own error, then b's, then what the step says.
func TestP5_2OwnErrorsOfTwo(t *testing.T) {
	one := api.ID{1, 1}
	for _, w := range wrongOps(one) {
		others := wrongOps(one)
		for _, o := range bodies() {
			if o = withID(o, one); right(o) {
				others = append(others, wrong{o, w.e})
			}
		}
		for _, x := range others {
			for _, c := range []struct {
				a, b api.Op
				e    api.Errno
			}{{w.o, x.o, w.e}, {x.o, w.o, x.e}} {
				got, e := xform.Include(c.a, c.b, true)
				sameOp(t, got, e, api.Op{}, c.e, "P5.2: Include(%v, %v)", c.a, c.b)
				got, e = xform.Exclude(c.a, c.b)
				sameOp(t, got, e, api.Op{}, c.e, "P5.2: Exclude(%v, %v)", c.a, c.b)
				y, z, e := xform.Transpose(c.a, c.b)
				sameRun(t, []api.Op{y, z}, api.OK, []api.Op{{}, {}}, api.OK, "P5.1: Transpose(%v, %v)", c.a, c.b)
				if e != c.e {
					t.Error(cut("P5.2: Transpose(%v, %v): %d, want %d", c.a, c.b, int(e), int(c.e)))
				}
			}
		}
		for _, c := range []int{-1, 0, end, end + 1, math.MinInt, math.MaxInt} {
			if got, e := xform.Caret(c, w.o); got != 0 || e != w.e {
				t.Error(cut("P5.2: Caret(%d, %v) = %d, %d, want %d", c, w.o, got, int(e), int(w.e)))
			}
		}
	}
}

// P5.2, of a step with several errors: the ids' ErrClash first, then ErrInside, then that of two Status commands, then ErrGrow.
func TestP5_2ErrorsOfOneStep(t *testing.T) {
	one, two := api.ID{1, 1}, api.ID{2, 1}
	last := ins(one, end-1, "x")
	for i, c := range []struct {
		a, b api.Op
		e    api.Errno
	}{
		{ins(one, 0, "abc"), ins(one, 1, "x"), api.ErrClash},
		{hide(one, end-1, end), ins(one, 0, "x"), api.ErrClash},
		{status(one, two, true), status(two, one, false), api.ErrInside},
		{status(one, two, true), ins(two, 0, "x"), api.ErrClash},
		{last, ins(two, end-1, "x"), api.ErrGrow},
		{hide(one, 0, 1, end-1, end), ins(two, 0, "x"), api.ErrGrow},
	} {
		x, y, e := xform.Transpose(c.a, c.b)
		if e != c.e || !op.Equal(x, api.Op{}) || !op.Equal(y, api.Op{}) {
			t.Errorf("P5.2: case %d: Transpose = %v, %v, %d, want %d", i, x, y, e, c.e)
		}
	}
	got, e := xform.Include(last, ins(one, 0, "x"), true)
	sameOp(t, got, e, api.Op{}, api.ErrClash, "P5.2: Include, one id at the end of all places")
	got, e = xform.Exclude(ins(one, 1, "x"), ins(one, 0, "abc"))
	sameOp(t, got, e, api.Op{}, api.ErrClash, "P5.2: Exclude, one id within its cells")
}
