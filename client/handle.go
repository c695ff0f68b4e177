package client

import (
	"redraft/api"
	"redraft/msg"
	"redraft/op"
)

// Handle: a frame that has come.
func (c *Client) Handle(b []byte) error {
	m, e := msg.Unseal(b)
	switch {
	case e != api.OK:
		return fault("Handle", 0, e)
	case m.Code != api.Ack && m.Code != api.Cast:
		return fault("Handle", 0, api.ErrCode)
	case m.Client != c.User():
		return fault("Handle", 0, api.ErrClient)
	}
	if e := c.ahead.Put(m.Rev, m); e != api.OK {
		return fault("Handle", m.Rev, e)
	}
	if c.takeTurns() == m.Rev {
		return fault("Handle", m.Rev, api.ErrTurn)
	}
	return nil
}

// takeTurns: what is held goes into the desk as long as its turn has come. The revision of the message that didn't fit and was thrown away; 0, which is none, if all did. (Ready would not do: it passes a message ahead of handing it out, and the turn of one that doesn't fit is still to come.)
func (c *Client) takeTurns() int {
	for {
		m, e := c.ahead.Peek()
		if e != api.OK {
			return 0
		}
		if !c.receive(m) {
			c.ahead.Drop(m.Rev)
			return m.Rev
		}
		c.ahead.Pass()
		c.quiet = 0
	}
}

// receive: the command of which a message tells is received; false, if it can't be the next one.
func (c *Client) receive(m api.Msg) bool {
	if m.Code == api.Cast && m.Op.ID[0] != c.User() {
		return c.Take(m.Op) == nil
	}
	o, pending := c.first()
	if !pending || !c.names(m, o) {
		return false
	}
	c.Confirm(o.ID) // it is the first pending one: nothing is refused
	c.sent = unsent
	return true
}

// names: is o, the first pending command, the one of which a message tells? A Cast must tell it word for word: where it differs, the server's order is not the one that this client has received.
func (c *Client) names(m api.Msg, o api.Op) bool {
	if m.Code == api.Ack {
		return o.ID == api.ID{c.User(), m.Seq}
	}
	return op.Equal(o, m.Op)
}
