package frame

import (
	"bytes"

	"redraft/api"
)

// Splitter: frames out of a stream that comes in pieces.
type Splitter struct {
	held []byte
	lost int
}

// NewSplitter: at a stream's beginning.
func NewSplitter() *Splitter { return &Splitter{} }

// Feed: the next piece: the payloads of the frames that are whole now. Behind a fault it looks for the next mark.
func (s *Splitter) Feed(piece []byte) [][]byte {
	s.held = append(s.held, piece...)
	var out [][]byte
	rest := s.held
	for len(rest) > 0 {
		payload, n, e := First(rest)
		if e == api.ErrShort {
			break
		}
		if e == api.OK {
			out = append(out, payload)
			rest = rest[n:]
		} else {
			s.lost++
			rest = rest[1:]
		}
	}
	if len(rest) < len(s.held) {
		// A slice of the old list would keep all that was fed.
		s.held = bytes.Clone(rest)
	}
	return out
}

// Lost: how many bytes it has thrown away; Held: how many wait for more.
func (s *Splitter) Lost() int { return s.lost }

// Held: see Lost.
func (s *Splitter) Held() int { return len(s.held) }
