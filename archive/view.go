package archive

import (
	"redraft/api"
	"redraft/desk"
	"redraft/op"
)

// load: an archive's view, and the commands that make it.
func load(b []byte) (*desk.Replica, []api.Op, api.Errno) {
	_, ops, e := read(b, wholeKind)
	if e != api.OK {
		return nil, nil, e
	}
	view := desk.NewReplica()
	if e := put(view, ops); e != api.OK {
		return nil, nil, e
	}
	return view, ops, api.OK
}

// put: the commands behind those of the view, up to the first that it refuses.
func put(view *desk.Replica, ops []api.Op) api.Errno {
	for _, o := range ops {
		if _, err := view.Put(view.Len(), o); err != nil {
			return api.Code(err) // the view wraps it: what lies inside is the answer
		}
	}
	return api.OK
}

// alike: how many first commands both have.
func alike(a, b []api.Op) int {
	n := 0
	for n < len(a) && n < len(b) && op.Equal(a[n], b[n]) {
		n++
	}
	return n
}
