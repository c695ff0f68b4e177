package xform

import (
	"cmp"
	"slices"

	"redraft/api"
	"redraft/op"
)

// Over: o carried over a run of operations (each made behind those ahead of it). earlier: the run comes ahead of o in the order.
func Over(o api.Op, earlier bool, run ...api.Op) (api.Op, api.Errno) {
	e := ownErrors(o)
	if e == api.OK {
		e = ownErrors(run...)
	}
	for i := 0; i < len(run) && e == api.OK; i++ {
		o, e = included(o, run[i], earlier)
	}
	if e != api.OK {
		return api.Op{}, e
	}
	return op.Clone(o), api.OK
}

// Cross: two runs of one context: first carried over later, later carried over first (first comes ahead in the order).
func Cross(first, later []api.Op) (first1, later1 []api.Op, e api.Errno) {
	if e = ownErrors(first...); e != api.OK {
		return nil, nil, e
	}
	if e = ownErrors(later...); e != api.OK {
		return nil, nil, e
	}
	first1, later1 = slices.Clone(first), slices.Clone(later)
	for i := range later1 {
		for j := range first1 {
			first1[j], later1[i], e = crossed(first1[j], later1[i])
			if e != api.OK {
				return nil, nil, e
			}
		}
	}
	return allApart(first1), allApart(later1), api.OK
}

// crossed: f and l of one context, f ahead in the order, each behind the other.
func crossed(f, l api.Op) (f1, l1 api.Op, e api.Errno) {
	if l1, e = included(l, f, true); e != api.OK {
		return api.Op{}, api.Op{}, e
	}
	f1, e = included(f, l, false)
	return f1, l1, e
}

// Bring: the run with its operation from moved to place to, by transposing.
func Bring(run []api.Op, from, to int) ([]api.Op, api.Errno) {
	if e := ownErrors(run...); e != api.OK {
		return nil, e
	}
	if from < 0 || from >= len(run) || to < 0 || to >= len(run) {
		return nil, api.ErrPlace
	}
	out := slices.Clone(run)
	for step := cmp.Compare(to, from); from != to; from += step {
		var e api.Errno
		i := min(from, from+step)
		if out[i], out[i+1], e = transposed(out[i], out[i+1]); e != api.OK {
			return nil, e
		}
	}
	return allApart(out), api.OK
}

// allApart: a run of the layer's own, its operations in memory of their own.
func allApart(run []api.Op) []api.Op {
	for i := range run {
		run[i] = op.Clone(run[i])
	}
	return run
}
