package desk

import (
	"errors"

	"redraft/api"
	"redraft/op"
	"redraft/xform"
)

// Take: another user's command, made behind the received ones: it becomes the next received one, ahead of the pending ones.
func (d *Desk) Take(o api.Op) (err error) {
	defer func() { err = caught(recover()) }()
	d.take(asked{"Take", d.received}, o)
	return nil
}

func (d *Desk) take(a asked, o api.Op) {
	client := o.ID[0]
	a.refuse(client == d.user || !isClient(client, d.lim), api.ErrUser)
	a.refuse(o.ID[1] > d.lim.Ops, api.ErrOps)
	n := op.Width(o)
	a.refuse(n > d.cellsLeft(client), api.ErrCells)
	effect := d.putReceived(a, o)
	d.received++
	d.cells[client] += n
	if effect.Kind == api.Ins {
		d.caret, _ = xform.Caret(d.caret, effect)
	}
}

// putReceived: o behind the received commands; its effect. What Put says against it goes into the Fault of Take whole.
func (d *Desk) putReceived(a asked, o api.Op) api.Op {
	effect, err := d.Put(d.received, o)
	var inner *api.Fault
	if errors.As(err, &inner) {
		panic(a.fault(inner))
	}
	return effect
}

// Confirm: the first pending command is received.
func (d *Desk) Confirm(id api.ID) (err error) {
	defer func() { err = caught(recover()) }()
	a := asked{"Confirm", 0}
	a.refuse(d.received == d.Len(), api.ErrEmpty)
	i, e := d.past.Find(id)
	a.refuse(e != api.OK || i != d.received, api.ErrUnknown)
	d.received++
	return nil
}
