package world_test

import (
	"bytes"
	"slices"

	"redraft/api"
	"redraft/frame"
	"redraft/op"
)

// plain: a world as the chapter's words tell it, over a server, clients, a disk and a network that are told as plainly.
type plain struct {
	lim   api.Limits
	d     *plainDisk
	hub   *hub
	runs  bool
	users []*user // nil: has not joined
	net   []api.Flight
	next  int
}

// newPlain: New and Open, of limits and files that are right.
func newPlain(lim api.Limits, files []api.File) (*plain, api.Errno) {
	d := &plainDisk{files: map[string]*api.File{}}
	for _, f := range files {
		d.files[f.Name] = &api.File{Name: f.Name, Bytes: bytes.Clone(f.Bytes), Synced: f.Synced}
	}
	h, e := bootHub(d, lim)
	if e != api.OK {
		return nil, e
	}
	return &plain{lim: lim, d: d, hub: h, runs: true, users: make([]*user, lim.Clients)}, api.OK
}

// client: P17.1's errors of a step whose node must be a client that has joined.
func (p *plain) client(n int) (*user, api.Errno) {
	if n < 1 || n > p.lim.Clients {
		return nil, api.ErrNode
	}
	if p.users[n-1] == nil {
		return nil, api.ErrNotJoined
	}
	return p.users[n-1], api.OK
}

// any: as client, of a node that may be the server too.
func (p *plain) any(n int) api.Errno {
	if n == 0 {
		return api.OK
	}
	_, e := p.client(n)
	return e
}

// play: P17.1, the table of steps.
func (p *plain) play(s api.Step) api.Answer {
	switch s.Kind {
	case api.StepJoin, api.StepInsert, api.StepDelete, api.StepMove, api.StepUndo, api.StepRedo, api.StepUndoOp, api.StepRedoOp:
		return p.person(s)
	case api.StepTick, api.StepJunk, api.StepView:
		if e := p.any(s.Node); e != api.OK {
			return api.Answer{Code: e}
		}
		return p.machine(s)
	case api.StepDeliver, api.StepDrop, api.StepCopy, api.StepSpoil:
		i := slices.IndexFunc(p.net, func(f api.Flight) bool { return f.Number == s.A })
		if i < 0 {
			return api.Answer{Code: api.ErrPacket}
		}
		return p.packet(s, i)
	case api.StepArm:
		return api.Answer{Code: p.arm(s.A, s.B)}
	case api.StepBoot:
		return p.boot(s.A, s.B)
	case api.StepSettle:
		n, e := p.settle()
		if e != api.OK {
			n = 0
		}
		return api.Answer{Code: e, N: n}
	}
	return api.Answer{Code: api.ErrStep}
}

// person: a step of a client's user.
func (p *plain) person(s api.Step) api.Answer {
	u, e := p.client(s.Node)
	if s.Kind == api.StepJoin && e != api.ErrNode {
		if written, _, _ := p.hub.log.by(s.Node); e == api.OK || written > 0 {
			return api.Answer{Code: api.ErrJoined}
		}
		p.users[s.Node-1] = newUser(s.Node, p.lim)
		return api.Answer{}
	}
	if e != api.OK {
		return api.Answer{Code: e}
	}
	var o api.Op
	switch s.Kind {
	case api.StepInsert:
		o, e = u.insert(s.A, s.Text)
	case api.StepDelete:
		o, e = u.delete(s.A, s.B)
	case api.StepMove:
		if e = u.move(s.A); e == api.OK {
			return api.Answer{M: u.caret()}
		}
	case api.StepUndo, api.StepRedo:
		o, e = u.step(s.Kind == api.StepRedo)
	default:
		o, e = u.turn(s.ID, s.Kind == api.StepRedoOp)
	}
	if e != api.OK {
		return api.Answer{Code: e}
	}
	line, e := op.Print(o)
	if e != api.OK {
		panic(e)
	}
	return api.Answer{N: o.ID[1], M: u.caret(), Text: line}
}

// machine: Tick, Junk or View of a node that is there.
func (p *plain) machine(s api.Step) api.Answer {
	switch {
	case s.Kind == api.StepView:
		v := p.view(s.Node)
		return api.Answer{N: v.Caret, M: v.Known, Text: v.Text}
	case s.Kind == api.StepTick:
		return p.tick(s.Node)
	case s.Node == 0 && !p.runs:
		return api.Answer{Code: api.ErrStopped}
	}
	if _, e := frame.Open([]byte(s.Text)); e == api.OK {
		return api.Answer{Code: api.ErrForged}
	}
	return api.Answer{Code: p.hand(s.Node, []byte(s.Text))}
}

// hand: Handle of a node.
func (p *plain) hand(n int, b []byte) api.Errno {
	if n > 0 {
		return p.users[n-1].handle(b)
	}
	e := p.hub.handle(b)
	p.runs = p.runs && e != api.ErrStopped
	return e
}

// tick: of a node that is there.
func (p *plain) tick(n int) api.Answer {
	var ps []api.Packet
	if n > 0 {
		ps = p.users[n-1].tick()
	} else {
		var e api.Errno
		if ps, e = p.hub.tick(); e != api.OK {
			p.runs = false
			return api.Answer{Code: e}
		}
	}
	if len(ps) <= 1<<20-len(p.net) {
		for _, x := range ps {
			p.fly(x, false)
		}
	}
	return api.Answer{N: len(ps), M: p.next}
}

// fly: a packet in flight; its number.
func (p *plain) fly(x api.Packet, spoilt bool) int {
	x.Bytes = bytes.Clone(x.Bytes)
	p.net = append(p.net, api.Flight{Number: p.next, Packet: x, Spoilt: spoilt})
	p.next++
	return p.next - 1
}

// packet: a step of the flight at i.
func (p *plain) packet(s api.Step, i int) api.Answer {
	f := &p.net[i]
	switch s.Kind {
	case api.StepCopy:
		if len(p.net) == 1<<20 {
			return api.Answer{Code: api.ErrFlight}
		}
		return api.Answer{N: p.fly(f.Packet, f.Spoilt)}
	case api.StepSpoil:
		mask := byte(s.ID[0] & 0xff)
		switch {
		case s.B < 0 || s.B >= len(f.Packet.Bytes) || mask == 0:
			return api.Answer{Code: api.ErrPlace}
		case f.Spoilt:
			return api.Answer{Code: api.ErrSpoilt}
		}
		f.Packet.Bytes[s.B] ^= mask
		f.Spoilt = true
		return api.Answer{}
	}
	x := f.Packet
	p.net = slices.Delete(slices.Clone(p.net), i, i+1)
	if s.Kind == api.StepDrop {
		return api.Answer{}
	}
	return api.Answer{Code: p.hand(x.To, x.Bytes), N: x.To, M: x.From}
}

// arm: StepArm.
func (p *plain) arm(steps, keep int) api.Errno {
	switch {
	case !p.runs:
		return api.ErrStopped
	case steps == 0:
		p.d.armed = 0
		return api.OK
	case steps < 0 || keep < 0:
		return api.ErrPlace
	}
	p.d.armed, p.d.keep = steps, keep
	return api.OK
}

// boot: StepBoot.
func (p *plain) boot(steps, keep int) api.Answer {
	switch {
	case p.runs:
		return api.Answer{Code: api.ErrUp}
	case steps < 0 || keep < 0:
		return api.Answer{Code: api.ErrPlace}
	}
	p.d.down, p.d.armed, p.d.keep = false, steps, keep
	h, e := bootHub(p.d, p.lim)
	if e != api.OK {
		return api.Answer{Code: api.ErrStopped}
	}
	p.hub, p.runs = h, true
	return api.Answer{N: h.durable()}
}

// view: of a node.
func (p *plain) view(n int) api.View {
	v := api.View{Node: n}
	switch {
	case n == 0:
		v.Up, v.Text, v.Known = p.runs, p.hub.view.see().text(), p.hub.durable()
	case p.users[n-1] != nil:
		u := p.users[n-1]
		v.Up, v.Text, v.Caret, v.Known, v.Pending = true, u.see().text(), u.caret(), u.received, u.pending()
	}
	return v
}

func (p *plain) views() []api.View {
	var out []api.View
	for n := range p.lim.Clients + 1 {
		out = append(out, p.view(n))
	}
	return out
}

// ops: of a node.
func (p *plain) ops(n int) ([]api.Op, api.Errno) {
	if e := p.any(n); e != api.OK {
		return nil, e
	}
	if n == 0 {
		return p.hub.view.see().ops, api.OK
	}
	return p.users[n-1].see().ops, api.OK
}

func (p *plain) bound() int {
	most := 0
	for _, u := range p.users {
		if u != nil {
			most = max(most, u.pending())
		}
	}
	return 9 + 2*most
}

// settled: chapter 17's word.
func (p *plain) settled() bool {
	for _, u := range p.users {
		if u != nil && (u.pending() > 0 || u.received != p.hub.durable()) {
			return false
		}
	}
	return len(p.hub.log.list) == p.hub.durable()
}

// settle: chapter 17's Settle.
func (p *plain) settle() (int, api.Errno) {
	if p.runs {
		p.d.armed = 0
	} else if a := p.boot(0, 0); a.Code != api.OK {
		panic(a.Code)
	}
	bound := p.bound()
	for n := 0; ; n++ {
		switch {
		case p.settled():
			return n, api.OK
		case n == bound:
			return n, api.ErrOther
		}
		p.round()
	}
}

// round: chapter 17's word.
func (p *plain) round() {
	flying := p.net
	p.net = nil
	for _, f := range flying {
		p.hand(f.Packet.To, f.Packet.Bytes)
	}
	p.tick(0)
	for c, u := range p.users {
		if u != nil {
			p.tick(c + 1)
		}
	}
}
