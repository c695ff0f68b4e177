package world_test

import (
	"slices"

	"redraft/api"
	"redraft/msg"
	"redraft/op"
	"redraft/utext"
)

// user: a client as chapters 8 and 15 tell it, over an order by names.
type user struct {
	order
	number      int
	lim         api.Limits
	received    int
	left        cell // the caret stands right behind it
	undo, redo  []api.ID
	held        map[int]api.Msg
	sent, quiet int
}

func newUser(number int, lim api.Limits) *user {
	return &user{number: number, lim: lim, held: map[int]api.Msg{}, sent: -1, quiet: 4}
}

func (u *user) pending() int { return len(u.list) - u.received }

func (u *user) opsSpent() bool {
	made, _, _ := u.by(u.number)
	return made >= u.lim.Ops
}

func (u *user) caret() int {
	s := u.see()
	n := 0
	for _, c := range s.row[:slices.Index(s.row, u.left)+1] {
		if s.hid[c] == 0 {
			n++
		}
	}
	return n
}

// own: the user's next command; what it is in its context.
func (u *user) own(m meant) (api.Op, api.Errno) {
	made, _, _ := u.by(u.number)
	m.ID = api.ID{u.number, made + 1}
	u.put(len(u.list), m)
	if m.Kind != api.Status {
		u.undo, u.redo = append(u.undo, m.ID), nil
	}
	return u.see().ops[len(u.list)-1], api.OK
}

// leftOf: the cell p-1 of those.
func leftOf(cells []cell, p int) cell {
	if p == 0 {
		return cell{}
	}
	return cells[p-1]
}

// insert: P8.7.
func (u *user) insert(p int, text string) (api.Op, api.Errno) {
	v := u.see().visible()
	if p < 0 || p > len(v) {
		return api.Op{}, api.ErrPlace
	}
	n, _, e := utext.Check(text)
	_, _, cells := u.by(u.number)
	switch {
	case e != api.OK:
		return api.Op{}, e
	case n == 0:
		return api.Op{}, api.ErrEmpty
	case n > 256:
		return api.Op{}, api.ErrLong
	case u.opsSpent():
		return api.Op{}, api.ErrOps
	case cells+n > u.lim.Cells:
		return api.Op{}, api.ErrCells
	}
	m := meant{Op: api.Op{Head: api.Head{Kind: api.Ins}, Text: text}}
	if p < len(v) {
		m.ahead = v[p]
	}
	o, e := u.own(m)
	u.left = cell{o.ID, n}
	return o, e
}

// delete: P8.8.
func (u *user) delete(p, n int) (api.Op, api.Errno) {
	v := u.see().visible()
	switch {
	case p < 0 || n < 0 || uint64(p)+uint64(n) > uint64(len(v)): // two ints can't pass what a uint64 holds
		return api.Op{}, api.ErrPlace
	case n == 0:
		return api.Op{}, api.ErrEmpty
	case u.opsSpent():
		return api.Op{}, api.ErrOps
	}
	u.left = leftOf(v, p)
	return u.own(meant{Op: api.Op{Head: api.Head{Kind: api.Hide}}, cover: slices.Clone(v[p : p+n])})
}

// move: P8.9.
func (u *user) move(p int) api.Errno {
	v := u.see().visible()
	if p < 0 || p > len(v) {
		return api.ErrPlace
	}
	u.left = leftOf(v, p)
	return api.OK
}

// step: P8.10: Undo, or Redo.
func (u *user) step(redo bool) (api.Op, api.Errno) {
	if u.opsSpent() {
		return api.Op{}, api.ErrOps
	}
	from, to := &u.undo, &u.redo
	if redo {
		from, to = to, from
	}
	for k := len(*from) - 1; k >= 0; k-- {
		if id := (*from)[k]; u.see().on[id] != redo {
			*from = slices.Delete(slices.Clone(*from), k, k+1)
			*to = append(slices.Clone(*to), id)
			return u.status(id, redo)
		}
	}
	return api.Op{}, api.ErrStack
}

// turn: P8.11.
func (u *user) turn(id api.ID, on bool) (api.Op, api.Errno) {
	k := u.find(id)
	switch {
	case u.opsSpent():
		return api.Op{}, api.ErrOps
	case k < 0:
		return api.Op{}, api.ErrUnknown
	case u.list[k].Kind == api.Status:
		return api.Op{}, api.ErrTarget
	case u.see().on[id] == on:
		return api.Op{}, api.ErrTurned
	}
	return u.status(id, on)
}

// status: the user's own Status on an edit that stands the other way; the caret goes as rule 6 says.
func (u *user) status(id api.ID, on bool) (api.Op, api.Errno) {
	edit := u.list[u.find(id)]
	row := u.see().row
	at := rangesOf(row, edit.cells())
	o, e := u.own(meant{Op: api.Op{Head: api.Head{Kind: api.Status}, Target: id, On: on}})
	if on == (edit.Kind == api.Ins) { // counters went down
		u.left = row[at[len(at)-1].Hi-1]
	} else {
		u.left = leftOf(row, at[0].Lo)
	}
	return o, e
}

// take: P8.12.
func (u *user) take(o api.Op) api.Errno {
	_, _, cells := u.by(o.ID[0])
	switch {
	case o.ID[0] == u.number || o.ID[0] < 1 || o.ID[0] > u.lim.Clients:
		return api.ErrUser
	case o.ID[1] > u.lim.Ops:
		return api.ErrOps
	case cells+op.Width(o) > u.lim.Cells:
		return api.ErrCells
	}
	if e := u.fits(u.received, o); e != api.OK {
		return e
	}
	u.put(u.received, meaning(u.row(u.received), o))
	u.received++
	return api.OK
}

// handle: P15.4.
func (u *user) handle(b []byte) api.Errno {
	m, e := msg.Unseal(b)
	if e != api.OK {
		return e
	}
	_, double := u.held[m.Rev]
	switch {
	case m.Code == api.Hello || m.Code == api.Submit:
		return api.ErrCode
	case m.Client != u.number:
		return api.ErrClient
	case m.Rev <= u.received:
		return api.ErrOld
	case double:
		return api.ErrDouble
	case m.Rev > u.received+64:
		return api.ErrFar
	}
	u.held[m.Rev] = m
	if u.turns() == m.Rev {
		return api.ErrTurn
	}
	return api.OK
}

// turns: P15.5; the revision that was thrown away.
func (u *user) turns() int {
	for {
		rev := u.received + 1
		m, here := u.held[rev]
		if !here {
			return -1
		}
		delete(u.held, rev)
		if !u.receives(m) {
			return rev
		}
		u.quiet = 0
	}
}

// receives: whether a message has its turn; then its command is received.
func (u *user) receives(m api.Msg) bool {
	own := m.Code == api.Ack || m.Op.ID[0] == u.number
	switch {
	case !own:
		return u.take(m.Op) == api.OK
	case u.pending() == 0:
		return false
	case m.Code == api.Ack && u.list[u.received].ID != api.ID{u.number, m.Seq}:
		return false
	case m.Code == api.Cast && !op.Equal(u.see().ops[u.received], m.Op):
		return false
	}
	u.received++
	u.sent = -1
	return true
}

// tick: P15.3.
func (u *user) tick() []api.Packet {
	var out []api.Packet
	if u.pending() > 0 {
		if u.sent == -1 || u.sent >= 3 {
			out = append(out, u.packet(api.Msg{Code: api.Submit, Client: u.number, Rev: u.received, Op: u.see().ops[u.received]}))
			u.sent = 0
		} else {
			u.sent++
		}
	}
	if u.quiet >= 4 {
		out = append(out, u.packet(api.Msg{Code: api.Hello, Client: u.number, Rev: u.received}))
		u.quiet = 0
	} else {
		u.quiet++
	}
	return out
}

func (u *user) packet(m api.Msg) api.Packet {
	p, e := msg.Seal(u.number, 0, m)
	if e != api.OK {
		panic(e)
	}
	return p
}
