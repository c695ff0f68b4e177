package server

import (
	"redraft/api"
	"redraft/msg"
)

// lost: thrown where the disk can't do any more what a call needs of it. The face that catches it stops the server.
type lost struct{}

// write: a command goes to the end of the journal. A full disk is an answer, for it leaves the journal as it was; behind any other error nobody knows what the disk holds.
func (s *Server) write(o api.Op) error {
	record, _ := msg.EncodeOp(o) // what was a command is one where it has been carried to
	err := s.journal.Append(record)
	if err != nil && api.Code(err) != api.ErrFull {
		panic(lost{})
	}
	return err
}

// sync: what is written is durable.
func (s *Server) sync() {
	if err := s.journal.Sync(); err != nil {
		panic(lost{})
	}
}

// stop: what a face answers that has caught r. Nothing but a lost disk is thrown here; if it were, it would be no stop.
func (s *Server) stop(call string, r any) error {
	if _, disk := r.(lost); !disk {
		panic(r)
	}
	s.stopped = true
	return fault(call, 0, api.ErrStopped)
}

// fault: an error as the faces answer it.
func fault(call string, at int, err error) error {
	return &api.Fault{Call: call, At: at, Err: err}
}
