package client

import (
	"redraft/api"
	"redraft/msg"
)

// Tick: the packets that go out now.
func (c *Client) Tick() []api.Packet {
	var out []api.Packet
	if o, pending := c.first(); pending {
		if c.sent == unsent || c.sent >= api.Resend {
			out = append(out, c.sealed(api.Submit, o))
			c.sent = 0
		} else {
			c.sent++
		}
	}
	if c.quiet >= api.Poll {
		out = append(out, c.sealed(api.Hello, api.Op{}))
		c.quiet = 0
	} else {
		c.quiet++
	}
	return out
}

// sealed: a message to the server, which tells it how many commands have come. The limits see to it that all that a client tells can be sealed.
func (c *Client) sealed(code api.MsgCode, o api.Op) api.Packet {
	const server = 0
	p, _ := msg.Seal(c.User(), server, api.Msg{Code: code, Client: c.User(), Rev: c.Received(), Op: o})
	return p
}
