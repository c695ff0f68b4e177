package client_test

import (
	"fmt"
	"maps"
	"math/rand"
	"slices"
	"strings"

	"redraft/api"
)

// copied: another plain client that stands where this one does.
func (p *plain) copied() *plain {
	m := *p.model
	m.order, m.undo, m.redo = slices.Clone(m.order), slices.Clone(m.undo), slices.Clone(m.redo)
	return &plain{model: &m, held: maps.Clone(p.held), sent: p.sent, quiet: p.quiet}
}

// randomCommand: of another client, mostly right where there are so many cells.
func randomCommand(r *rand.Rand, w order, id api.ID, cells int) api.Op {
	o := api.Op{Head: api.Head{ID: id, Kind: api.Ins}}
	switch r.Intn(6) {
	case 0, 1, 2:
		o.At, o.Text = r.Intn(cells+1), strings.Repeat(string(rune('A'+r.Intn(26))), 1+r.Intn(3))
		if r.Intn(15) == 0 {
			o.At += r.Intn(4)
		}
		if r.Intn(15) == 0 {
			o.Text = strings.Repeat("W", 4+r.Intn(30))
		}
	case 3, 4:
		o.Kind = api.Hide
		for lo := r.Intn(cells + 1); lo <= cells && len(o.Ranges) < 3; lo += 2 + r.Intn(3) {
			hi := lo + 1 + r.Intn(2)
			o.Ranges = append(o.Ranges, api.Range{Lo: lo, Hi: hi})
			lo = hi
		}
		if len(o.Ranges) == 0 {
			o.Ranges = []api.Range{{Lo: cells, Hi: cells + 1}}
		}
	default:
		o.Kind, o.On, o.Target = api.Status, r.Intn(2) == 0, api.ID{1 + r.Intn(3), 1 + r.Intn(4)}
		if len(w) > 0 && r.Intn(4) > 0 {
			o.Target = w[r.Intn(len(w))].ID
		}
		if o.Target == id {
			o.Target = api.ID{1 + id[0]%3, id[1]}
		}
	}
	return o
}

// randomOther: a command of another client for the next revision, mostly right; its number is mostly that client's next one.
func randomOther(r *rand.Rand, p *plain) api.Op {
	c := 1 + (p.user+r.Intn(p.lim.Clients-1))%p.lim.Clients
	n, _ := p.made(c)
	id := api.ID{c, n + 1}
	if r.Intn(25) == 0 {
		id = api.ID{1 + r.Intn(8), 1 + r.Intn(p.lim.Ops+2)}
	}
	return randomCommand(r, p.order[:p.received], id, len(p.row(p.received)))
}

// randomNext: a message for the revision behind R, mostly one that fits.
func randomNext(r *rand.Rand, p *plain) api.Msg {
	m := api.Msg{Client: p.user, Rev: p.received + 1}
	pending := p.received < len(p.order)
	switch {
	case pending && r.Intn(3) == 0:
		m.Code, m.Seq = api.Ack, p.order[p.received].ID[1]
	case pending && r.Intn(4) == 0:
		m.Code, m.Op = api.Cast, p.firstPending()
	case r.Intn(25) == 0:
		m.Code, m.Seq = api.Ack, 1+r.Intn(p.lim.Ops)
	default:
		m.Code, m.Op = api.Cast, randomOther(r, p)
	}
	return m
}

// plan: frames of the next revisions, n or fewer of them, which fit one behind the other.
func plan(r *rand.Rand, p *plain, n int) [][]byte {
	p = p.copied()
	var out [][]byte
	for range 3 * n {
		m := randomNext(r, p)
		q := p.copied()
		if q.handle(sealed(m)) == nil {
			p = q
			out = append(out, sealed(m))
		}
		if len(out) == n {
			break
		}
	}
	return out
}

// junk: what a client refuses as it stands, of every kind.
func junk(r *rand.Rand, p *plain) [][]byte {
	good := sealed(randomNext(r, p))
	spoilt := slices.Clone(good)
	spoilt[r.Intn(len(spoilt))] ^= 1 << r.Intn(8)
	other := 1 + p.user%8
	own := api.Op{Head: api.Head{ID: api.ID{p.user, 1}, Kind: api.Ins}, Text: "x"}
	out := [][]byte{
		nil, []byte("junk"), spoilt, good[:r.Intn(len(good))], append(slices.Clone(good), byte(r.Intn(256))),
		raw(), raw(5, 1, 1, 1), raw(3, byte(p.user), 0, 1), raw(3, byte(p.user), byte(1+p.received%100), 1, 0),
		hello(p.user, p.received), hello(other, 8192), sealed(api.Msg{Code: api.Submit, Client: p.user, Rev: p.received, Op: own}),
		ackTo(other, p.received+1, 1), castTo(other, p.received+1, own), castTo(other, p.received+2, own),
		ackTo(p.user, p.received+65, 1), castTo(p.user, p.received+65+r.Intn(1000), own),
	}
	if p.received > 0 {
		rev := 1 + r.Intn(p.received)
		out = append(out, ackTo(p.user, rev, 1), castTo(p.user, rev, p.order[rev-1].form(p.row(rev-1))), castTo(p.user, rev, own))
	}
	for _, rev := range slices.Sorted(maps.Keys(p.held)) {
		out = append(out, ackTo(p.user, rev, 1), sealed(p.held[rev]))
	}
	return append(out, misfit(p)...)
}

// misfit: messages of the revision whose turn it is that don't fit.
func misfit(p *plain) [][]byte {
	rev, cells := p.received+1, len(p.row(p.received))
	other := 1 + p.user%p.lim.Clients
	n, _ := p.made(other)
	out := [][]byte{
		ackTo(p.user, rev, 1024), castTo(p.user, rev, parse(fmt.Sprintf(`%d.1023 ins 0 "x"`, p.user))),
		castTo(p.user, rev, parse(fmt.Sprintf(`%d.%d ins %d "x"`, other, n+1, cells+1))),
		castTo(p.user, rev, parse(fmt.Sprintf(`%d.%d hide %d-%d`, other, n+1, cells, cells+1))),
		castTo(p.user, rev, parse(fmt.Sprintf(`%d.%d off %d.1024`, other, n+1, p.user))),
	}
	if p.received < len(p.order) {
		o := p.firstPending()
		out = append(out, ackTo(p.user, rev, o.ID[1]+1))
		if o.Kind == api.Ins {
			o.Text += "x"
		} else {
			o = api.Op{Head: api.Head{ID: o.ID, Kind: api.Ins}, Text: "x"}
		}
		out = append(out, castTo(p.user, rev, o))
	}
	return out
}

// randomCall: a call of the desk, mostly right.
func randomCall(r *rand.Rand, p *plain) step {
	shown := len(p.visible())
	at := r.Intn(shown + 1)
	if r.Intn(20) == 0 {
		at = shown + 1
	}
	switch r.Intn(9) {
	case 0, 1, 2:
		return insert(at, strings.Repeat(string(rune('a'+r.Intn(26))), 1+r.Intn(3)))
	case 3, 4:
		return remove(at, r.Intn(4))
	case 5:
		return move(at)
	case 6:
		return undo()
	case 7:
		return redo()
	}
	if len(p.order) > 0 {
		id := p.order[r.Intn(len(p.order))].ID
		return turn(id, !p.flag(id))
	}
	return turn(api.ID{1, 1}, false)
}

// day: a random day of a client: calls of its user, ticks, and mail that comes out of order and twice.
type day struct {
	r    *rand.Rand
	mail [][]byte
}

// next: what happens next.
func (d *day) next(p *plain) step {
	if len(d.mail) == 0 && len(p.held) == 0 && d.r.Intn(2) == 0 {
		d.mail = plan(d.r, p, 1+d.r.Intn(6))
	}
	switch k := d.r.Intn(20); {
	case k < 5:
		return tick()
	case k < 10:
		return randomCall(d.r, p)
	case k < 18 && len(d.mail) > 0:
		i := d.r.Intn(len(d.mail))
		b := d.mail[i]
		if d.r.Intn(4) > 0 {
			d.mail = slices.Delete(slices.Clone(d.mail), i, i+1)
		}
		return handle(b)
	case k < 18:
		m := randomNext(d.r, p)
		m.Rev += d.r.Intn(4)
		return handle(sealed(m))
	}
	list := junk(d.r, p)
	return handle(list[d.r.Intn(len(list))])
}
