package server

import (
	"redraft/api"
	"redraft/msg"
)

// Tick: one sync; the packets that may go out now.
func (s *Server) Tick() (out []api.Packet, err error) {
	defer func() {
		if r := recover(); r != nil {
			err = s.stop("Tick", r)
		}
	}()
	if s.stopped {
		return nil, fault("Tick", 0, api.ErrStopped)
	}
	old := s.Durable()
	if s.Revision() > old {
		s.sync()
	}
	s.show()
	out = s.packets(old)
	s.forget()
	return out, nil
}

// show: the view becomes that of all that is written.
func (s *Server) show() {
	for k := s.Durable(); k < s.Revision(); k++ {
		s.Put(k, s.log[k]) // it was checked ahead of being written: nothing is refused
	}
}

// packets: what is told in a tick ahead of which old commands were durable.
func (s *Server) packets(old int) []api.Packet {
	var out []api.Packet
	for c, x := range s.clients {
		for r := x.asked; 0 < r && r <= old; r++ {
			out = append(out, s.cast(c, r))
		}
	}
	known := s.Known()
	for r := old + 1; r <= s.Durable(); r++ {
		for _, c := range known {
			out = append(out, s.news(c, r))
		}
	}
	for c, x := range s.clients {
		if 0 < x.again && x.again <= old {
			out = append(out, s.ack(c, x.again))
		}
	}
	return out
}

// forget: what was noted of the clients since the last tick.
func (s *Server) forget() {
	for c := range s.clients {
		s.clients[c].asked, s.clients[c].again = 0, 0
	}
}

// news: to a client, of a revision of which it has not been told.
func (s *Server) news(c, r int) api.Packet {
	if s.command(r).ID[0] == c {
		return s.ack(c, r)
	}
	return s.cast(c, r)
}

func (s *Server) cast(c, r int) api.Packet {
	return sealed(api.Msg{Code: api.Cast, Client: c, Rev: r, Op: s.command(r)})
}

func (s *Server) ack(c, r int) api.Packet {
	return sealed(api.Msg{Code: api.Ack, Client: c, Rev: r, Seq: s.command(r).ID[1]})
}

// sealed: the packet of a message to its client. All that this server tells can be sealed.
func sealed(m api.Msg) api.Packet {
	const server = 0
	p, _ := msg.Seal(server, m.Client, m)
	return p
}
