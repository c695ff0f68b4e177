package world

import (
	"sync"

	"redraft/api"
	"redraft/client"
	"redraft/server"
)

// node: what a world asks of the server and of each client alike.
type node interface {
	isUp() bool
	Handle(b []byte) error
	tick() ([]api.Packet, error)
	Text() string
	Caret() int
	known() int   // how many commands of the journal have come to it
	pending() int // how many commands of its own have not come back
	Len() int
	Ops(lo, hi int) ([]api.Op, error)
}

// host: the server. One that has stopped stays until another one is booted, for what it shows.
type host struct {
	*server.Server
	down bool
}

func (h *host) isUp() bool { return !h.down }

// Handle: as the server's, which may stop at it.
func (h *host) Handle(b []byte) error { return h.heed(h.Server.Handle(b)) }

func (h *host) tick() ([]api.Packet, error) {
	ps, err := h.Server.Tick()
	return ps, h.heed(err)
}

// heed: an error of the server tells whether it has stopped.
func (h *host) heed(err error) error {
	if api.Code(err) == api.ErrStopped {
		h.down = true
	}
	return err
}

// Caret: a server has none.
func (h *host) Caret() int { return 0 }

func (h *host) known() int { return h.Durable() }

func (h *host) pending() int { return 0 }

// seat: a client that has joined.
type seat struct{ *client.Client }

func (s *seat) isUp() bool { return true }

func (s *seat) tick() ([]api.Packet, error) { return s.Tick(), nil }

func (s *seat) known() int { return s.Received() }

func (s *seat) pending() int { return s.Len() - s.Received() }

// client: the one of that number, if it has joined.
func (w *World) client(number int) (*seat, api.Errno) {
	switch {
	case number < 1 || number > w.lim.Clients:
		return nil, api.ErrNode
	case w.seats[number-1] == nil:
		return nil, api.ErrNotJoined
	}
	return w.seats[number-1], api.OK
}

// node: the one of that number, unless it is a client that has not joined.
func (w *World) node(number int) (node, api.Errno) {
	if number == 0 {
		return w.server, api.OK
	}
	c, e := w.client(number)
	if e != api.OK {
		return nil, e // no nil client in it, which would not be a nil node
	}
	return c, api.OK
}

// nodes: the server and all clients that have joined.
func (w *World) nodes() []node {
	out := []node{w.server}
	for _, s := range w.seats {
		if s != nil {
			out = append(out, s)
		}
	}
	return out
}

// allOps: the commands of a node's view.
func allOps(x node) []api.Op {
	out, _ := x.Ops(0, x.Len())
	return out
}

// Views: the server's and each client's view, by number (also of those that have not joined).
func (w *World) Views() []api.View {
	out := make([]api.View, w.lim.Clients+1)
	var all sync.WaitGroup
	for number := range out {
		all.Add(1)
		go func() {
			defer all.Done()
			out[number] = w.view(number)
		}()
	}
	all.Wait()
	return out
}

// view: of a node, also of a client that has not joined.
func (w *World) view(number int) api.View {
	x, e := w.node(number)
	if e != api.OK {
		return api.View{Node: number}
	}
	return api.View{Node: number, Up: x.isUp(), Text: x.Text(), Caret: x.Caret(), Known: x.known(), Pending: x.pending()}
}
