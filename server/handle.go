package server

import (
	"redraft/api"
	"redraft/msg"
	"redraft/op"
	"redraft/xform"
)

// Handle: a frame that has come.
func (s *Server) Handle(b []byte) (err error) {
	defer func() {
		if r := recover(); r != nil {
			err = s.stop("Handle", r)
		}
	}()
	if err := s.take(b); err != nil {
		return fault("Handle", 0, err)
	}
	return nil
}

// take: Handle, but for the face.
func (s *Server) take(b []byte) error {
	if s.stopped {
		return api.ErrStopped
	}
	m, e := msg.Unseal(b)
	switch {
	case e != api.OK:
		return e
	case m.Code != api.Hello && m.Code != api.Submit:
		return api.ErrCode
	case m.Client < 1 || m.Client > s.lim.Clients:
		return api.ErrClient
	case m.Code == api.Hello:
		return s.hello(m)
	}
	return s.submit(m)
}

// hello: the client wants to be told what comes behind the revision that it has.
func (s *Server) hello(m api.Msg) error {
	if !s.isDurable(m.Rev) {
		return api.ErrBase
	}
	from := &s.clients[m.Client]
	from.known, from.asked = true, m.Rev+1
	return nil
}

// isDurable: are so many commands durable?
func (s *Server) isDurable(revision int) bool { return 0 <= revision && revision <= s.Durable() }

// submit: the client's next command is carried over what it has not seen, and written down. One that is written already is noted: the client has not heard of it. (Another's command, and a Show, are asked for by the chapter, though msg lets none through.)
func (s *Server) submit(m api.Msg) error {
	from := &s.clients[m.Client]
	last := s.Last(m.Client)
	switch {
	case m.Op.ID[0] != m.Client:
		return api.ErrClient
	case m.Op.ID[1] < last:
		return api.ErrStale
	case m.Op.ID[1] == last:
		from.known, from.again = true, from.last
		return nil
	}
	if e := s.check(m); e != api.OK {
		return e
	}
	carried, e := xform.Over(m.Op, true, s.log[m.Rev:]...)
	if e != api.OK {
		return e
	}
	if err := s.write(carried); err != nil {
		return err
	}
	s.enter(carried)
	from.known = true
	return nil
}

// check: may a client's new command be written?
func (s *Server) check(m api.Msg) api.Errno {
	number := m.Op.ID[1]
	switch {
	case number > s.Last(m.Client)+1:
		return api.ErrSeq
	case number > s.lim.Ops:
		return api.ErrOps
	case !s.isDurable(m.Rev) || m.Rev < s.clients[m.Client].last:
		return api.ErrBase
	case op.Width(m.Op) > s.cellsLeft(m.Client):
		return api.ErrCells
	}
	return s.checkAt(m.Rev, m.Op)
}

// checkAt: may o stand behind the first base commands? They are durable.
func (s *Server) checkAt(base int, o api.Op) api.Errno {
	if e := op.Check(o, s.cellsAt(base)); e != api.OK {
		return e
	}
	switch o.Kind {
	case api.Show:
		return api.ErrKind
	case api.Status:
		return s.checkTarget(base, o.Target)
	}
	return api.OK
}

// checkTarget: is it an edit among the first base commands?
func (s *Server) checkTarget(base int, target api.ID) api.Errno {
	k, err := s.Find(target)
	switch {
	case err != nil || k >= base:
		return api.ErrUnknown
	case s.log[k].Kind == api.Status:
		return api.ErrTarget
	}
	return api.OK
}

// cellsAt: how many cells the first base commands put in. It counts from the end of the view, because most clients are not far behind.
func (s *Server) cellsAt(base int) int {
	n := s.Total()
	for _, o := range s.log[base:s.Durable()] {
		n -= op.Width(o)
	}
	return n
}
