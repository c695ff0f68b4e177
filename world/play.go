package world

import (
	"redraft/api"
	"redraft/client"
	"redraft/frame"
	"redraft/op"
	"redraft/server"
)

// Play: one step.
func (w *World) Play(s api.Step) api.Answer {
	switch s.Kind {
	case api.StepJoin:
		return only(w.join(s.Node))
	case api.StepInsert, api.StepDelete, api.StepUndo, api.StepRedo, api.StepUndoOp, api.StepRedoOp:
		return w.command(s)
	case api.StepMove:
		return w.move(s.Node, s.A)
	case api.StepTick:
		return w.tick(s.Node)
	case api.StepDeliver:
		return w.deliver(s.A)
	case api.StepDrop:
		return only(w.net.Drop(s.A))
	case api.StepCopy:
		number, e := w.net.Copy(s.A)
		return api.Answer{Code: e, N: number}
	case api.StepSpoil:
		return only(w.net.Spoil(s.A, s.B, byte(s.ID[0])))
	case api.StepJunk:
		return only(w.junk(s.Node, s.Text))
	case api.StepArm:
		return only(w.arm(s.A, s.B))
	case api.StepBoot:
		return w.boot(s.A, s.B)
	case api.StepView:
		return w.show(s.Node)
	case api.StepSettle:
		return w.settle()
	}
	return only(api.ErrStep)
}

// only: an answer that tells a number and no more.
func only(e api.Errno) api.Answer { return api.Answer{Code: e} }

// join: a client begins. One of which commands are written can't: it would give their numbers to others.
func (w *World) join(number int) api.Errno {
	_, e := w.client(number)
	switch {
	case e == api.ErrNode:
		return e
	case e == api.OK || w.server.Last(number) > 0:
		return api.ErrJoined
	}
	c, _ := client.New(number, w.lim) // the number and the limits are right
	w.seats[number-1] = &seat{c}
	return api.OK
}

// command: a call of a user that makes one.
func (w *World) command(s api.Step) api.Answer {
	c, e := w.client(s.Node)
	if e != api.OK {
		return only(e)
	}
	o, err := c.do(s)
	if err != nil {
		return only(api.Code(err))
	}
	line, _ := op.Print(o) // what a desk has made can be printed
	return api.Answer{N: o.ID[1], M: c.Caret(), Text: line}
}

// do: the desk's call that a step names.
func (s *seat) do(step api.Step) (api.Op, error) {
	switch step.Kind {
	case api.StepInsert:
		return s.Insert(step.A, step.Text)
	case api.StepDelete:
		return s.Delete(step.A, step.B)
	case api.StepUndo:
		return s.Undo()
	case api.StepRedo:
		return s.Redo()
	}
	return s.Turn(step.ID, step.Kind == api.StepRedoOp)
}

// move: a user's caret.
func (w *World) move(number, to int) api.Answer {
	c, e := w.client(number)
	if e != api.OK {
		return only(e)
	}
	if err := c.Move(to); err != nil {
		return only(api.Code(err))
	}
	return api.Answer{M: c.Caret()}
}

// tick: a node's; its packets are on their way, or lost, if there is no room for all of them.
func (w *World) tick(number int) api.Answer {
	x, e := w.node(number)
	if e != api.OK {
		return only(e)
	}
	ps, err := x.tick()
	if err != nil {
		return only(api.Code(err))
	}
	w.net.Send(ps...)
	return api.Answer{N: len(ps), M: w.net.Next()}
}

// deliver: a packet comes to its node, which may refuse it: it is gone all the same.
func (w *World) deliver(k int) api.Answer {
	f, e := w.net.Deliver(k)
	if e != api.OK {
		return only(e)
	}
	p := f.Packet
	return api.Answer{Code: w.hand(p.To, p.Bytes), N: p.To, M: p.From}
}

// hand: bytes come to a node; what it answers.
func (w *World) hand(number int, b []byte) api.Errno {
	x, e := w.node(number)
	if e != api.OK {
		return e
	}
	return api.Code(x.Handle(b))
}

// junk: bytes that nobody has sent come to a node. They may not be what a node could have sent.
func (w *World) junk(number int, text string) api.Errno {
	x, e := w.node(number)
	switch {
	case e != api.OK:
		return e
	case !x.isUp():
		return api.ErrStopped
	}
	b := []byte(text)
	if _, e := frame.Open(b); e == api.OK {
		return api.ErrForged
	}
	return w.hand(number, b)
}

// arm: the disk of a server that runs.
func (w *World) arm(steps, keep int) api.Errno {
	if !w.server.isUp() {
		return api.ErrStopped
	}
	return w.disk.Arm(steps, keep)
}

// boot: a server that is down begins anew.
func (w *World) boot(steps, keep int) api.Answer {
	switch {
	case w.server.isUp():
		return only(api.ErrUp)
	case steps < 0 || keep < 0:
		return only(api.ErrPlace)
	}
	if e := w.reboot(steps, keep); e != api.OK {
		return only(e)
	}
	return api.Answer{N: w.server.Durable()}
}

// reboot: the disk comes up, armed unless steps is 0, and a new server is booted over it. If that fails, the old one stays, for what it shows.
func (w *World) reboot(steps, keep int) api.Errno {
	w.disk.Up()
	w.disk.Arm(steps, keep)
	s, err := server.Boot(w.disk, w.lim)
	if err != nil {
		return api.ErrStopped
	}
	w.server = &host{Server: s}
	return api.OK
}

// show: a node's view as an answer.
func (w *World) show(number int) api.Answer {
	if _, e := w.node(number); e != api.OK {
		return only(e)
	}
	v := w.view(number)
	return api.Answer{N: v.Caret, M: v.Known, Text: v.Text}
}

// settle: Settle as an answer.
func (w *World) settle() api.Answer {
	rounds, e := w.Settle()
	if e != api.OK {
		return only(e)
	}
	return api.Answer{N: rounds}
}
