package server_test

import (
	"redraft/api"
	"redraft/disk"
	"redraft/journal"
	"redraft/msg"
	"redraft/op"
)

// plain: a server as the chapter's words tell it, on a disk of its own. The journal's calls that the chapter names are made on it, no others.
type plain struct {
	d       *disk.Disk
	j       *journal.Journal
	lim     api.Limits
	order           // what is written
	durable int     // how many of these are
	known   [10]int // by client: 1, if it is known
	hello   map[int]int
	again   map[int]int // by client: the number of the command
	stopped bool
}

// refused: a Fault around a number, or around another Fault.
func refused(call string, at int, err error) error {
	return &api.Fault{Call: call, At: at, Err: err}
}

// bootPlain: P14.2.
func bootPlain(d *disk.Disk, lim api.Limits) (*plain, error) {
	if d == nil {
		return nil, refused("Boot", 0, api.ErrHandle)
	}
	for _, x := range [][2]int{{lim.Clients, 8}, {lim.Cells, 4096}, {lim.Ops, 1024}} {
		if x[0] < 1 || x[0] > x[1] {
			return nil, refused("Boot", 0, api.ErrLimits)
		}
	}
	j, records, _, err := journal.Open(d, "journal")
	if err != nil {
		return nil, refused("Boot", 0, err)
	}
	p := &plain{d: d, j: j, lim: lim, hello: map[int]int{}, again: map[int]int{}}
	for k, b := range records {
		if e := p.replay(k, b); e != api.OK {
			return nil, refused("Boot", k, e)
		}
	}
	p.durable = len(p.order)
	return p, nil
}

// replay: P14.2's six looks at record k.
func (p *plain) replay(k int, b []byte) api.Errno {
	o, _, e := msg.DecodeOp(b)
	if e != api.OK {
		return e
	}
	last, _, cells := p.by(o.ID[0])
	switch {
	case o.ID[0] > p.lim.Clients:
		return api.ErrClient
	case o.ID[1] != last+1:
		return api.ErrSeq
	case o.ID[1] > p.lim.Ops:
		return api.ErrOps
	case cells+op.Width(o) > p.lim.Cells:
		return api.ErrCells
	}
	if e := p.fits(k, o); e != api.OK {
		return e
	}
	p.order = p.with(o)
	return api.OK
}

// fits: may o stand behind the first k commands? (P6.3, and P14.4's steps 8 and 9, which ask the same of it.)
func (p *plain) fits(k int, o api.Op) api.Errno {
	if e := op.Check(o, len(p.row(k))); e != api.OK {
		return e
	}
	if o.Kind == api.Show {
		return api.ErrKind
	}
	if o.Kind == api.Status {
		i := p.order[:k].find(o.Target)
		if i < 0 {
			return api.ErrUnknown
		}
		if p.order[i].Kind == api.Status {
			return api.ErrTarget
		}
	}
	return api.OK
}

// handle: P14.3.
func (p *plain) handle(b []byte) error {
	if p.stopped {
		return refused("Handle", 0, api.ErrStopped)
	}
	m, e := msg.Unseal(b)
	if e != api.OK {
		return refused("Handle", 0, e)
	}
	if m.Code != api.Hello && m.Code != api.Submit {
		return refused("Handle", 0, api.ErrCode)
	}
	if m.Client < 1 || m.Client > p.lim.Clients {
		return refused("Handle", 0, api.ErrClient)
	}
	if m.Code == api.Submit {
		return p.submit(m.Client, m.Rev, m.Op)
	}
	if m.Rev < 0 || m.Rev > p.durable {
		return refused("Handle", 0, api.ErrBase)
	}
	p.hello[m.Client] = m.Rev
	p.known[m.Client] = 1
	return nil
}

// submit: P14.4.
func (p *plain) submit(c, rev int, o api.Op) error {
	last, revision, cells := p.by(c)
	n := o.ID[1]
	e := api.OK
	switch {
	case o.ID[0] != c:
		e = api.ErrClient
	case n < last:
		e = api.ErrStale
	case n == last:
		p.again[c] = n
		p.known[c] = 1
		return nil
	case n > last+1:
		e = api.ErrSeq
	case n > p.lim.Ops:
		e = api.ErrOps
	case rev < 0 || rev > p.durable || rev < revision:
		e = api.ErrBase
	case cells+op.Width(o) > p.lim.Cells:
		e = api.ErrCells
	default:
		e = p.fits(rev, o)
	}
	if e != api.OK {
		return refused("Handle", 0, e)
	}
	carried := meaning(p.row(rev), o).form(p.today())
	b, _ := msg.EncodeOp(carried)
	if err := p.j.Append(b); err != nil {
		if api.Code(err) == api.ErrFull {
			return refused("Handle", 0, err)
		}
		p.stopped = true
		return refused("Handle", 0, api.ErrStopped)
	}
	p.order = p.with(carried)
	p.known[c] = 1
	return nil
}

// tick: P14.5.
func (p *plain) tick() ([]api.Packet, error) {
	if p.stopped {
		return nil, refused("Tick", 0, api.ErrStopped)
	}
	old := p.durable
	if len(p.order) > old {
		if p.j.Sync() != nil {
			p.stopped = true
			return nil, refused("Tick", 0, api.ErrStopped)
		}
		p.durable = len(p.order)
	}
	var out []api.Packet
	for c := 1; c <= 8; c++ {
		if r, ok := p.hello[c]; ok {
			for k := r + 1; k <= old; k++ {
				out = append(out, p.castOf(c, k))
			}
		}
	}
	for k := old + 1; k <= p.durable; k++ {
		for c := 1; c <= 8; c++ {
			switch {
			case p.known[c] == 0:
			case p.order[k-1].ID[0] == c:
				out = append(out, ackOf(c, k, p.order[k-1].ID[1]))
			default:
				out = append(out, p.castOf(c, k))
			}
		}
	}
	for c := 1; c <= 8; c++ {
		n, ok := p.again[c]
		if k := p.find(api.ID{c, n}) + 1; ok && k <= old {
			out = append(out, ackOf(c, k, n))
		}
	}
	clear(p.hello)
	clear(p.again)
	return out, nil
}

// castOf: a Cast to client c of revision r.
func (p *plain) castOf(c, r int) api.Packet {
	x, _ := msg.Seal(0, c, api.Msg{Code: api.Cast, Client: c, Rev: r, Op: p.ops(r-1, r)[0]})
	return x
}

// ackOf: an Ack to client c: its command n is revision r.
func ackOf(c, r, n int) api.Packet {
	x, _ := msg.Seal(0, c, api.Msg{Code: api.Ack, Client: c, Rev: r, Seq: n})
	return x
}

// log: P14.6.
func (p *plain) log(lo, hi int) ([]api.Op, error) {
	if !(0 <= lo && lo <= hi && hi <= len(p.order)) {
		return nil, refused("Log", lo, api.ErrPlace)
	}
	return p.ops(lo, hi), nil
}
