package op

import (
	"redraft/api"
	"redraft/rope"
)

// Apply: its effect on a rope; a Status has none of its own (ErrKind).
func Apply(r *rope.Rope, o api.Op) api.Errno {
	if r == nil {
		return api.ErrHandle
	}
	if e := Check(o, r.Total()); e != api.OK {
		return e
	}
	// What is left to refuse, a counter at its end, the rope refuses itself and then stays as it was.
	switch o.Kind {
	case api.Ins:
		return r.Insert(o.At, o.Text, 0)
	case api.Hide:
		return r.Bump(o.Ranges, 1)
	case api.Show:
		return r.Bump(o.Ranges, -1)
	}
	return api.ErrKind
}

// Inverse: what takes it back, made behind it.
func Inverse(o api.Op) (api.Op, api.Errno) {
	if e := ownError(o); e != api.OK {
		return api.Op{}, e
	}
	switch o.Kind {
	case api.Ins, api.Show:
		return api.Op{Head: api.Head{Kind: api.Hide}, Ranges: covered(o)}, api.OK
	case api.Hide:
		return api.Op{Head: api.Head{Kind: api.Show}, Ranges: covered(o)}, api.OK
	}
	return api.Op{Head: api.Head{Kind: api.Status}, Target: o.Target, On: !o.On}, api.OK
}
