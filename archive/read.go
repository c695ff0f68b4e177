package archive

import (
	"bytes"

	"redraft/api"
	"redraft/frame"
	"redraft/msg"
)

// How many bytes the payloads have: the first part of every head, a delta's whole head, what stands ahead of a command's own bytes, a foot.
const (
	headBytes      = len(word) + 2
	deltaHeadBytes = headBytes + 8
	commandBytes   = 5
	footBytes      = 13
)

// reader: what has not been read yet.
type reader struct {
	rest []byte
}

// read: the head and the commands of an archive's bytes, or of a delta's.
func read(b []byte, kind byte) (head, []api.Op, api.Errno) {
	r := &reader{b}
	h, e := r.head(kind)
	if e != api.OK {
		return head{}, nil, e
	}
	ops, e := r.commands(h.base.Commands)
	if e == api.OK && len(r.rest) > 0 {
		e = api.ErrTail
	}
	if e != api.OK {
		return head{}, nil, e
	}
	return h, ops, api.OK
}

// payload: that of the next frame.
func (r *reader) payload() ([]byte, api.Errno) {
	payload, n, e := frame.First(r.rest)
	r.rest = r.rest[n:]
	return payload, e
}

// head: the next frame, as the head of this kind.
func (r *reader) head(kind byte) (head, api.Errno) {
	payload, e := r.payload()
	if e == api.OK {
		e = checkHead(payload, kind)
	}
	if e != api.OK || kind == wholeKind {
		return head{kind: kind}, e
	}
	base := api.Summary{Commands: number(payload[headBytes:])}
	copy(base.Sum[:], payload[headBytes+4:])
	return head{kind, base}, api.OK
}

func checkHead(payload []byte, kind byte) api.Errno {
	size := headBytes
	if kind == deltaKind {
		size = deltaHeadBytes
	}
	switch {
	case len(payload) < headBytes || !bytes.HasPrefix(payload, []byte(word)):
		return api.ErrFormat
	case payload[headBytes-2] != version:
		return api.ErrVersion
	case payload[headBytes-1] != kind || len(payload) != size:
		return api.ErrFormat
	}
	return api.OK
}

// commands: those up to the foot, which is read too. They are numbered from first on.
func (r *reader) commands(first int) ([]api.Op, api.Errno) {
	var ops []api.Op
	for {
		payload, e := r.payload()
		if e != api.OK {
			return nil, e
		}
		switch mark(payload) {
		case footMark:
			return ops, checkFoot(payload, ops)
		case commandMark:
			o, e := command(payload, first+len(ops))
			if e != api.OK {
				return nil, e
			}
			ops = append(ops, o)
		default:
			return nil, api.ErrFormat
		}
	}
}

// mark: what a payload behind the head's begins with; 0, which is no mark, if it is empty.
func mark(payload []byte) byte {
	if len(payload) == 0 {
		return 0
	}
	return payload[0]
}

// command: that of a payload which begins with a command's mark and must tell this number.
func command(payload []byte, turn int) (api.Op, api.Errno) {
	switch {
	case len(payload) < commandBytes:
		return api.Op{}, api.ErrFormat
	case number(payload[1:]) != turn:
		return api.Op{}, api.ErrIndex
	}
	o, _, e := msg.DecodeOp(payload[commandBytes:])
	return o, e
}

// checkFoot: is a payload that begins with a foot's mark the foot of these commands?
func checkFoot(payload []byte, ops []api.Op) api.Errno {
	if len(payload) != footBytes {
		return api.ErrFormat
	}
	own := foot(ops)
	sums := footBytes - 4
	switch {
	case !bytes.Equal(payload[:sums], own[:sums]):
		return api.ErrCount
	case !bytes.Equal(payload, own):
		return api.ErrSum
	}
	return api.OK
}

// number: the one that four bytes tell, the highest first.
func number(b []byte) int {
	return int(b[0])<<24 | int(b[1])<<16 | int(b[2])<<8 | int(b[3])
}
