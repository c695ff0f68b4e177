package client_test

import (
	"redraft/api"
	"redraft/msg"
	"redraft/op"
)

// plain: a client as the chapter's words tell it, over a desk by names.
type plain struct {
	*model
	held        map[int]api.Msg
	sent, quiet int
}

// newPlain: P15.2, of a user and limits that are right.
func newPlain(user int, lim api.Limits) *plain {
	return &plain{model: newModel(user, lim), held: map[int]api.Msg{}, sent: -1, quiet: 4}
}

// refused: a Fault around a number.
func refused(call string, at int, e api.Errno) error {
	return &api.Fault{Call: call, At: at, Err: e}
}

// handle: P15.4.
func (p *plain) handle(b []byte) error {
	m, e := msg.Unseal(b)
	if e != api.OK {
		return refused("Handle", 0, e)
	}
	if m.Code == api.Hello || m.Code == api.Submit {
		return refused("Handle", 0, api.ErrCode)
	}
	if m.Client != p.user {
		return refused("Handle", 0, api.ErrClient)
	}
	if m.Rev <= p.received {
		return refused("Handle", m.Rev, api.ErrOld)
	}
	if _, double := p.held[m.Rev]; double {
		return refused("Handle", m.Rev, api.ErrDouble)
	}
	if m.Rev > p.received+64 {
		return refused("Handle", m.Rev, api.ErrFar)
	}
	p.held[m.Rev] = m
	if p.turns() == m.Rev {
		return refused("Handle", m.Rev, api.ErrTurn)
	}
	return nil
}

// turns: P15.5; the revision that was thrown away.
func (p *plain) turns() int {
	for {
		rev := p.received + 1
		m, here := p.held[rev]
		if !here {
			return -1
		}
		delete(p.held, rev)
		if !p.fits(m) {
			return rev
		}
		p.quiet = 0
	}
}

// fits: whether a message has its turn; then its command is received.
func (p *plain) fits(m api.Msg) bool {
	pending := p.received < len(p.order)
	own := m.Code == api.Ack || m.Op.ID[0] == p.user
	switch {
	case !own:
		return p.take(m.Op) == api.OK
	case !pending:
		return false
	case m.Code == api.Ack && p.order[p.received].ID != api.ID{p.user, m.Seq}:
		return false
	case m.Code == api.Cast && !op.Equal(p.firstPending(), m.Op):
		return false
	}
	p.received++
	p.sent = -1
	return true
}

// firstPending: in the context of the received ones.
func (p *plain) firstPending() api.Op {
	return p.order[p.received].form(p.row(p.received))
}

// tick: P15.3.
func (p *plain) tick() []api.Packet {
	var out []api.Packet
	if p.received < len(p.order) {
		if p.sent == -1 || p.sent >= 3 {
			out = append(out, p.packet(api.Msg{Code: api.Submit, Client: p.user, Rev: p.received, Op: p.firstPending()}))
			p.sent = 0
		} else {
			p.sent++
		}
	}
	if p.quiet >= 4 {
		out = append(out, p.packet(api.Msg{Code: api.Hello, Client: p.user, Rev: p.received}))
		p.quiet = 0
	} else {
		p.quiet++
	}
	return out
}

func (p *plain) packet(m api.Msg) api.Packet {
	x, e := msg.Seal(p.user, 0, m)
	if e != api.OK {
		panic(e)
	}
	return x
}
