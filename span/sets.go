package span

import "redraft/api"

// Union: the places of a or b.
func Union(a, b []api.Range) ([]api.Range, api.Errno) {
	if e := checkBoth(a, b); e != api.OK {
		return nil, e
	}
	var out []api.Range
	for len(a) > 0 && len(b) > 0 {
		if a[0].Lo > b[0].Lo {
			a, b = b, a
		}
		out = added(out, a[0].Lo, a[0].Hi)
		a = a[1:]
	}
	out = taken(out, a, 0, api.MaxPlace, 0)
	return bounded(taken(out, b, 0, api.MaxPlace, 0))
}

// Meet: the places of a and b.
func Meet(a, b []api.Range) ([]api.Range, api.Errno) {
	if e := checkBoth(a, b); e != api.OK {
		return nil, e
	}
	return bounded(shared(a, b))
}

// Minus: the places of a that are not of b.
func Minus(a, b []api.Range) ([]api.Range, api.Errno) {
	if e := checkBoth(a, b); e != api.OK {
		return nil, e
	}
	return bounded(shared(a, others(b)))
}

// checkBoth: the error of a, or else that of b.
func checkBoth(a, b []api.Range) api.Errno {
	if _, e := Check(a); e != api.OK {
		return e
	}
	_, e := Check(b)
	return e
}

// shared: the places that lie in both, in as many ranges as that takes.
func shared(a, b []api.Range) []api.Range {
	var out []api.Range
	for len(a) > 0 && len(b) > 0 {
		out = added(out, max(a[0].Lo, b[0].Lo), min(a[0].Hi, b[0].Hi))
		if a[0].Hi < b[0].Hi {
			a = a[1:]
		} else {
			b = b[1:]
		}
	}
	return out
}

// others: all places that a does not have; there may be one range more than a list may have.
func others(a []api.Range) []api.Range {
	var out []api.Range
	from := 0
	for _, r := range a {
		out = added(out, from, r.Lo)
		from = r.Hi
	}
	return added(out, from, api.MaxPlace)
}
