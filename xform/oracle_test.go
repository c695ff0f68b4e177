package xform_test

import (
	"fmt"
	"math"
	"slices"
	"strings"
	"testing"

	"redraft/api"
	"redraft/op"
)

// The oracle works on single places: an insert is a function from the places ahead of it to those behind it, and a list of ranges is a set of places.

const end = api.MaxPlace

var none = api.ID{}

func ins(id api.ID, at int, text string) api.Op {
	return api.Op{Head: api.Head{ID: id, Kind: api.Ins}, At: at, Text: text}
}

func cover(id api.ID, kind api.Kind, ranges ...api.Range) api.Op {
	return api.Op{Head: api.Head{ID: id, Kind: kind}, Ranges: ranges}
}

func hide(id api.ID, ends ...int) api.Op { return cover(id, api.Hide, list(ends...)...) }

func show(id api.ID, ends ...int) api.Op { return cover(id, api.Show, list(ends...)...) }

func status(id, target api.ID, on bool) api.Op {
	return api.Op{Head: api.Head{ID: id, Kind: api.Status}, Target: target, On: on}
}

// list: the ranges whose ends are the numbers, two by two.
func list(ends ...int) []api.Range {
	var out []api.Range
	for i := 0; i < len(ends); i += 2 {
		out = append(out, api.Range{Lo: ends[i], Hi: ends[i+1]})
	}
	return out
}

// withID: the same under another id.
func withID(o api.Op, id api.ID) api.Op {
	o.ID = id
	return o
}

func places(list []api.Range) []int {
	var out []int
	for _, r := range list {
		for q := r.Lo; q < r.Hi; q++ {
			out = append(out, q)
		}
	}
	return out
}

// rangesOf: places that rise, as ranges.
func rangesOf(places []int) []api.Range {
	var out []api.Range
	for _, q := range places {
		if k := len(out) - 1; k >= 0 && out[k].Hi == q {
			out[k].Hi++
		} else {
			out = append(out, api.Range{Lo: q, Hi: q + 1})
		}
	}
	return out
}

func runes(o api.Op) int { return len([]rune(o.Text)) }

func clashing(a, b api.Op) bool { return a.ID != none && a.ID == b.ID }

// wantInclude: P5.3 of right operations.
func wantInclude(a, b api.Op, earlier bool) (api.Op, api.Errno) {
	if clashing(a, b) {
		return api.Op{}, api.ErrClash
	}
	if b.Kind != api.Ins {
		return a, api.OK
	}
	n := runes(b)
	switch a.Kind {
	case api.Ins:
		if b.At < a.At || b.At == a.At && earlier {
			a.At += n
		}
		if a.At+runes(a) > end {
			return api.Op{}, api.ErrGrow
		}
	case api.Hide, api.Show:
		moved := places(a.Ranges)
		for i, q := range moved {
			if b.At <= q {
				moved[i] = q + n
			}
		}
		if moved[len(moved)-1] >= end {
			return api.Op{}, api.ErrGrow
		}
		if a.Ranges = rangesOf(moved); len(a.Ranges) > api.MaxRanges {
			return api.Op{}, api.ErrMany
		}
	}
	return a, api.OK
}

// wantExclude: P5.4 of right operations. A gap is within b's cells if both cells beside it are b's.
func wantExclude(a, b api.Op) (api.Op, api.Errno) {
	if clashing(a, b) {
		return api.Op{}, api.ErrClash
	}
	n := runes(b)
	bs := func(q int) bool { return b.Kind == api.Ins && b.At <= q && q < b.At+n }
	old := func(q int) int {
		if b.Kind == api.Ins && q >= b.At+n {
			return q - n
		}
		return q
	}
	switch a.Kind {
	case api.Status:
		if a.Target == b.ID {
			return api.Op{}, api.ErrInside
		}
	case api.Ins:
		if bs(a.At-1) && bs(a.At) {
			return api.Op{}, api.ErrInside
		}
		a.At = old(a.At)
	default:
		was := places(a.Ranges)
		for i, q := range was {
			if bs(q) {
				return api.Op{}, api.ErrInside
			}
			was[i] = old(q)
		}
		a.Ranges = rangesOf(was)
	}
	return a, api.OK
}

// wantTranspose: P5.5 of right operations.
func wantTranspose(a, b api.Op) (b1, a1 api.Op, e api.Errno) {
	b1, e = wantExclude(b, a)
	if e != api.OK {
		return api.Op{}, api.Op{}, e
	}
	statuses := a.Kind == api.Status && b.Kind == api.Status
	if statuses && a.Target == b.Target && a.On != b.On || a.Kind == api.Status && a.Target == b.ID {
		return api.Op{}, api.Op{}, api.ErrClash
	}
	a1 = a
	if b.Kind == api.Ins && (a.Kind == api.Hide || a.Kind == api.Show) {
		a1, e = wantInclude(a, b, false)
	}
	if b.Kind == api.Ins && a.Kind == api.Ins && b.At <= a.At {
		if a1.At += runes(b); a1.At+runes(a) > end {
			e = api.ErrGrow
		}
	}
	if e != api.OK {
		return api.Op{}, api.Op{}, e
	}
	return b1, a1, api.OK
}

func wantOver(o api.Op, earlier bool, run []api.Op) (api.Op, api.Errno) {
	e := api.OK
	for _, b := range run {
		if e == api.OK {
			o, e = wantInclude(o, b, earlier)
		}
	}
	return o, e
}

func wantCross(first, later []api.Op) (f, l []api.Op, e api.Errno) {
	f, l = slices.Clone(first), slices.Clone(later)
	for i := range l {
		for j := range f {
			ahead := l[i]
			if l[i], e = wantInclude(ahead, f[j], true); e != api.OK {
				return nil, nil, e
			}
			if f[j], e = wantInclude(f[j], ahead, false); e != api.OK {
				return nil, nil, e
			}
		}
	}
	return f, l, api.OK
}

func wantBring(run []api.Op, from, to int) ([]api.Op, api.Errno) {
	if from < 0 || from >= len(run) || to < 0 || to >= len(run) {
		return nil, api.ErrPlace
	}
	var e api.Errno
	out := slices.Clone(run)
	for ; from < to && e == api.OK; from++ {
		out[from], out[from+1], e = wantTranspose(out[from], out[from+1])
	}
	for ; from > to && e == api.OK; from-- {
		out[from-1], out[from], e = wantTranspose(out[from-1], out[from])
	}
	if e != api.OK {
		return nil, e
	}
	return out, api.OK
}

// cut: what is told of a fault, each part cut short: a list may have thousands of ranges.
func cut(what string, args ...any) string {
	for i, arg := range args {
		if s := fmt.Sprint(arg); len(s) > 300 {
			args[i] = s[:300] + ".."
		} else {
			args[i] = s
		}
	}
	return fmt.Sprintf(strings.ReplaceAll(what, "%d", "%v"), args...)
}

// sameOp: is that the operation, and the error? With an error all is zero.
func sameOp(t *testing.T, got api.Op, e api.Errno, want api.Op, f api.Errno, what string, args ...any) {
	t.Helper()
	if f != api.OK {
		want = api.Op{}
	}
	if e != f || !op.Equal(got, want) {
		t.Error(cut(what+" = %v, %d, want %v, %d", append(args, got, int(e), want, int(f))...))
	}
}

// sameRun: likewise, of a run.
func sameRun(t *testing.T, got []api.Op, e api.Errno, want []api.Op, f api.Errno, what string, args ...any) {
	t.Helper()
	if f != api.OK {
		want = nil
	}
	if e != f || !slices.EqualFunc(got, want, op.Equal) {
		t.Error(cut(what+" = %v, %d, want %v, %d", append(args, got, int(e), want, int(f))...))
	}
}

// wrong: an operation with an own error.
type wrong struct {
	o api.Op
	e api.Errno
}

// wrongOps: one for each own error, and some with several of which the first counts.
func wrongOps(id api.ID) []wrong {
	extra := ins(id, 0, "a")
	extra.On = true
	target := hide(id, 0, 1)
	target.Target = api.ID{3, 3}
	return []wrong{
		{api.Op{}, api.ErrKind},
		{api.Op{Head: api.Head{ID: id, Kind: 5}}, api.ErrKind},
		{ins(api.ID{9, 1}, -1, ""), api.ErrID},
		{hide(api.ID{0, 1}, 3, 2), api.ErrID},
		{extra, api.ErrExtra},
		{target, api.ErrExtra},
		{ins(id, -1, "\xff"), api.ErrUtf8},
		{ins(id, 0, "a\x00"), api.ErrRune},
		{ins(id, end+1, ""), api.ErrEmpty},
		{ins(id, -1, string(make257())), api.ErrLong},
		{ins(id, -1, "a"), api.ErrPlace},
		{ins(id, end+1, "a"), api.ErrPlace},
		{ins(id, end, "a"), api.ErrGrow},
		{ins(id, end-1, "ab"), api.ErrGrow},
		{hide(id), api.ErrNone},
		{show(id, 3, 3), api.ErrRange},
		{hide(id, 0, end+1), api.ErrRange},
		{hide(id, 0, 2, 2, 3), api.ErrOrder},
		{show(id, teeth(api.MaxRanges+1)...), api.ErrMany},
		{status(id, none, true), api.ErrTarget},
		{ins(id, math.MinInt, "a"), api.ErrPlace},
		{ins(id, math.MaxInt, "a"), api.ErrPlace},
		{hide(id, math.MinInt, math.MaxInt), api.ErrRange},
		{status(api.ID{math.MaxInt, math.MinInt}, id, true), api.ErrID},
		{status(api.ID{4, 4}, api.ID{4, 4}, true), api.ErrTarget},
	}
}

func make257() []rune { return slices.Repeat([]rune{'x'}, api.MaxText+1) }

// teeth: the ends of n ranges of two places each, one place between two.
func teeth(n int) []int {
	var out []int
	for i := range n {
		out = append(out, 3*i, 3*i+2)
	}
	return out
}
