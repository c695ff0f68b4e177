package archive

import (
	"bytes"

	"redraft/api"
	"redraft/desk"
	"redraft/frame"
)

// salvage: what has been taken so far out of spoilt or torn bytes.
type salvage struct {
	view  *desk.Replica
	ops   []api.Op
	kept  int  // bytes, of the frames that were taken
	ended bool // by a foot
}

// Rescue: the archive of as many first commands as spoilt or torn bytes still hold whole, and how many bytes were given up.
func Rescue(b []byte) (saved []byte, lost int, e api.Errno) {
	s := &salvage{view: desk.NewReplica()}
	at := 0
search:
	for at < len(b) && !s.ended {
		payload, n, fault := frame.First(b[at:])
		switch {
		case fault != api.OK:
			// What a length told may be spoilt too: the next byte is the only one from which it is safe to go on.
			at++
			continue search
		case s.takes(payload):
			s.kept += n
		}
		at += n
	}
	if s.kept == 0 {
		return nil, 0, api.ErrFormat
	}
	return whole(s.ops), len(b) - s.kept, api.OK
}

// takes: takes a frame's payload, if it is one whose turn it is.
func (s *salvage) takes(payload []byte) bool {
	switch mark(payload) {
	case commandMark:
		return s.takesCommand(payload)
	case footMark:
		s.ended = checkFoot(payload, s.ops) == api.OK
		return s.ended
	}
	return s.kept == 0 && bytes.Equal(payload, head{kind: wholeKind}.payload())
}

func (s *salvage) takesCommand(payload []byte) bool {
	o, e := command(payload, len(s.ops))
	if e != api.OK || put(s.view, []api.Op{o}) != api.OK {
		return false
	}
	s.ops = append(s.ops, o)
	return true
}
