package span

import "redraft/api"

// Through: the same cells' places behind an insert of n cells at at.
func Through(a []api.Range, at, n int) ([]api.Range, api.Errno) {
	if _, e := Check(a); e != api.OK {
		return nil, e
	}
	if !isGap(at) || !isGap(n) {
		return nil, api.ErrPlace
	}
	if passesEnd(a, at, n) {
		return nil, api.ErrGrow
	}
	out := taken(nil, a, 0, at, 0)
	return bounded(taken(out, a, at, api.MaxPlace, n))
}

// Back: the places ahead of that insert of the cells that were there; and of those that it put in, counted from 0.
func Back(a []api.Range, at, n int) (old, in []api.Range, e api.Errno) {
	if _, e := Check(a); e != api.OK {
		return nil, nil, e
	}
	// at and n are small once they are gaps, so their sum cannot wrap.
	if !isGap(at) || !isGap(n) || !isGap(at+n) {
		return nil, nil, api.ErrPlace
	}
	old = taken(nil, a, 0, at, 0)
	old = taken(old, a, at+n, api.MaxPlace, -n)
	in = taken(nil, a, at, at+n, -at)
	return old, in, api.OK
}

// passesEnd: would n cells put in at at push a's last place over the end? The last one is the first to go.
func passesEnd(a []api.Range, at, n int) bool {
	if len(a) == 0 {
		return false
	}
	end := a[len(a)-1].Hi
	return end > at && end+n > api.MaxPlace
}
