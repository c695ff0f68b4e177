package msg

import (
	"redraft/api"
	"redraft/utext"
)

// command: all bytes that are left, as a command.
func (r *reader) command() api.Op {
	var o api.Op
	o.Kind = r.kind()
	o.ID[0] = r.between(1, api.MaxClients, api.ErrID)
	o.ID[1] = r.between(1, api.MaxOps, api.ErrID)
	switch o.Kind {
	case api.Ins:
		o.At = r.between(0, api.MaxPlace, api.ErrPlace)
		o.Text = r.text(api.MaxPlace - o.At)
	case api.Hide:
		o.Ranges = r.ranges()
	case api.Status:
		o.Target = r.target(o.ID)
		o.On = r.between(0, 1, api.ErrField) == 1
	}
	r.end()
	return o
}

func (r *reader) kind() api.Kind {
	first := r.at
	kind := api.Kind(r.between(int(api.Ins), int(api.Status), api.ErrKind))
	r.refuse(kind == api.Show, first, api.ErrKind)
	return kind
}

// text: a length and a text of so many bytes, for whose cells there is room.
func (r *reader) text(room int) string {
	n := r.amount(4*api.MaxText, api.ErrEmpty, api.ErrLong)
	first := r.at
	s := string(r.take(n))
	runes, at, e := utext.Check(s)
	r.refuse(e != api.OK, first+at, e)
	r.refuse(runes > api.MaxText, first, api.ErrLong)
	r.refuse(runes > room, first, api.ErrGrow)
	return s
}

func (r *reader) ranges() []api.Range {
	count := r.amount(api.MaxRanges, api.ErrNone, api.ErrMany)
	var out []api.Range
	end, apart := 0, 0
	for range count {
		lo := end + r.between(apart, maxNumber, api.ErrOrder)
		end = lo + r.between(1, api.MaxPlace-lo, api.ErrRange)
		out = append(out, api.Range{Lo: lo, Hi: end})
		apart = 1 // the next one may not touch this one; the first one may stand at 0
	}
	return out
}

// target: an id that is not the command's own.
func (r *reader) target(own api.ID) api.ID {
	client := r.between(1, api.MaxClients, api.ErrTarget)
	first := r.at
	id := api.ID{client, r.between(1, api.MaxOps, api.ErrTarget)}
	r.refuse(id == own, first, api.ErrTarget)
	return id
}

// appendCommand: b and the bytes of o, which may travel.
func appendCommand(b []byte, o api.Op) []byte {
	b = appendNumbers(b, int(o.Kind), o.ID[0], o.ID[1])
	switch o.Kind {
	case api.Ins:
		b = appendNumbers(b, o.At, len(o.Text))
		return append(b, o.Text...)
	case api.Hide:
		return appendRanges(b, o.Ranges)
	}
	on := 0
	if o.On {
		on = 1
	}
	return appendNumbers(b, o.Target[0], o.Target[1], on)
}

func appendRanges(b []byte, list []api.Range) []byte {
	b = appendNumbers(b, len(list))
	end := 0
	for _, x := range list {
		b = appendNumbers(b, x.Lo-end, x.Hi-x.Lo)
		end = x.Hi
	}
	return b
}
