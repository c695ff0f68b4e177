package link_test

import (
	"fmt"
	"math"
	"strings"
	"testing"

	"redraft/api"
	"redraft/link"
)

// far: numbers far beside every bound.
var far = []int{math.MinInt, math.MinInt + 1, math.MinInt32, -api.MaxFlight, math.MaxInt32, math.MaxInt/2 + 1, math.MaxInt - api.MaxFlight, math.MaxInt - 1, math.MaxInt}

// letter: a packet that was sent or copied: as it was sent, what was turned in it, and what has become of it.
type letter struct {
	from, to int
	sent     string
	spoilt   bool
	at       int // of one that is spoilt: its byte that was turned, and by what
	mask     byte
	fate     string // "", "delivered" or "dropped"
}

// now: the bytes as they are now.
func (l letter) now() string {
	if !l.spoilt {
		return l.sent
	}
	return l.sent[:l.at] + string([]byte{l.sent[l.at] ^ l.mask}) + l.sent[l.at+1:]
}

// plain: a link as the chapter's words tell it. It forgets nothing: a packet's number is its place in the bag.
type plain struct {
	nodes, most int
	bag         []letter
}

func (p *plain) flying(k int) bool { return k >= 0 && k < len(p.bag) && p.bag[k].fate == "" }

func (p *plain) count(fate string) int {
	n := 0
	for _, l := range p.bag {
		if l.fate == fate {
			n++
		}
	}
	return n
}

// flight: packet number k as it is told.
func (p *plain) flight(k int) string {
	l := p.bag[k]
	return fmt.Sprintf("{%d %d>%d %q %v}", k, l.from, l.to, l.now(), l.spoilt)
}

// told: Flights, Len and Next.
func (p *plain) told() string {
	var out []string
	for k := range p.bag {
		if p.flying(k) {
			out = append(out, p.flight(k))
		}
	}
	return fmt.Sprintf("[%s] %d %d", strings.Join(out, " "), p.count(""), len(p.bag))
}

// call: a call with its arguments.
type call struct {
	kind string
	k    int
	at   int
	mask byte
	ps   []api.Packet
}

func (c call) String() string {
	switch c.kind {
	case "Send":
		var out []string
		for _, p := range c.ps {
			out = append(out, fmt.Sprintf("%d>%d %q", p.From, p.To, p.Bytes))
		}
		return "Send(" + strings.Join(out, ", ") + ")"
	case "Spoil":
		return fmt.Sprintf("Spoil(%d, %d, %#x)", c.k, c.at, c.mask)
	}
	return fmt.Sprintf("%s(%d)", c.kind, c.k)
}

// Short ways to write calls.
func packet(from, to int, s string) api.Packet {
	return api.Packet{From: from, To: to, Bytes: []byte(s)}
}
func send(ps ...api.Packet) call      { return call{kind: "Send", ps: ps} }
func deliver(k int) call              { return call{kind: "Deliver", k: k} }
func drop(k int) call                 { return call{kind: "Drop", k: k} }
func double(k int) call               { return call{kind: "Copy", k: k} }
func spoil(k, at int, mask byte) call { return call{kind: "Spoil", k: k, at: at, mask: mask} }
func refused(e api.Errno) string      { return fmt.Sprintf("error %d", int(e)) }
func number(k int) string             { return fmt.Sprintf("number %d", k) }
func inside(lo, x, hi int) bool       { return lo <= x && x < hi }
func beside(p api.Packet, nodes int) bool {
	return !inside(0, p.From, nodes) || !inside(0, p.To, nodes)
}

// answer: what the chapter says that a call answers, done or refused.
func (p *plain) answer(c call) string {
	room := p.most - p.count("")
	if c.kind != "Send" && !p.flying(c.k) {
		return refused(api.ErrPacket)
	}
	switch c.kind {
	case "Send":
		for _, x := range c.ps {
			if beside(x, p.nodes) {
				return refused(api.ErrNode)
			}
		}
		if len(c.ps) > room {
			return refused(api.ErrFlight)
		}
		first := len(p.bag)
		for _, x := range c.ps {
			p.bag = append(p.bag, letter{from: x.From, to: x.To, sent: string(x.Bytes)})
		}
		return number(first)
	case "Deliver":
		out := p.flight(c.k)
		p.bag[c.k].fate = "delivered"
		return out
	case "Drop":
		p.bag[c.k].fate = "dropped"
	case "Copy":
		if room == 0 {
			return refused(api.ErrFlight)
		}
		p.bag = append(p.bag, p.bag[c.k])
		return number(len(p.bag) - 1)
	case "Spoil":
		l := &p.bag[c.k]
		switch {
		case !inside(0, c.at, len(l.sent)) || c.mask == 0:
			return refused(api.ErrPlace)
		case l.spoilt:
			return refused(api.ErrSpoilt)
		}
		l.spoilt, l.at, l.mask = true, c.at, c.mask
	}
	return "done"
}

func toldFlight(f api.Flight) string {
	return fmt.Sprintf("{%d %d>%d %q %v}", f.Number, f.Packet.From, f.Packet.To, f.Packet.Bytes, f.Spoilt)
}

// isZero: the flight that stands beside an error.
func isZero(f api.Flight) bool {
	return f.Number == 0 && f.Packet.From == 0 && f.Packet.To == 0 && len(f.Packet.Bytes) == 0 && !f.Spoilt
}

// ask: the same call of a link; what stands beside an error must be nothing.
func ask(t *testing.T, n *link.Link, c call) string {
	t.Helper()
	var k int
	var f api.Flight
	var e api.Errno
	switch c.kind {
	case "Send":
		k, e = n.Send(c.ps...)
	case "Deliver":
		f, e = n.Deliver(c.k)
	case "Drop":
		e = n.Drop(c.k)
	case "Copy":
		k, e = n.Copy(c.k)
	case "Spoil":
		e = n.Spoil(c.k, c.at, c.mask)
	default:
		t.Fatal("no call: " + c.kind)
	}
	switch {
	case e != api.OK:
		if k != 0 || !isZero(f) {
			t.Fatalf("P16.1: %v: error %d, and beside it %d, %v", c, int(e), k, f)
		}
		return refused(e)
	case c.kind == "Deliver":
		return toldFlight(f)
	case c.kind == "Send" || c.kind == "Copy":
		return number(k)
	}
	return "done"
}

// told: Flights, Len and Next of a link.
func told(n *link.Link) string {
	var out []string
	for _, f := range n.Flights() {
		out = append(out, toldFlight(f))
	}
	return fmt.Sprintf("[%s] %d %d", strings.Join(out, " "), n.Len(), n.Next())
}

// made: a new link.
func made(t *testing.T, nodes, most int) *link.Link {
	t.Helper()
	n, e := link.New(nodes, most)
	if n == nil || e != api.OK {
		t.Fatalf("P16.2: New(%d, %d) = %v, %d", nodes, most, n != nil, int(e))
	}
	return n
}

// pair: a link, and what the chapter says of it, which must answer alike.
type pair struct {
	t     *testing.T
	n     *link.Link
	p     *plain
	calls []call
}

func newPair(t *testing.T, nodes, most int) *pair {
	t.Helper()
	return &pair{t: t, n: made(t, nodes, most), p: &plain{nodes: nodes, most: most}}
}

// do: one call of both, and what can be seen behind it.
func (x *pair) do(c call) string {
	x.t.Helper()
	x.calls = append(x.calls, c)
	got, want := ask(x.t, x.n, c), x.p.answer(c)
	if got != want {
		x.t.Fatalf("%d nodes, room %d: %v = %s, want %s", x.p.nodes, x.p.most, x.calls, got, want)
	}
	x.see()
	return got
}

func (x *pair) see() {
	x.t.Helper()
	if got, want := told(x.n), x.p.told(); got != want {
		x.t.Fatalf("P16.8: %d nodes, room %d: %v: %s, want %s", x.p.nodes, x.p.most, x.calls, got, want)
	}
}

// all: calls one behind the other.
func (x *pair) all(calls ...call) {
	x.t.Helper()
	for _, c := range calls {
		x.do(c)
	}
}

// says: a call answers this; what the chapter's words gave is held against it too.
func (x *pair) says(what string, c call, want string) {
	x.t.Helper()
	if got := x.do(c); got != want {
		x.t.Fatalf("%s: %v = %s, want %s", what, c, got, want)
	}
}

// stays: a call is refused so, and all is as it was.
func (x *pair) stays(what string, c call, e api.Errno) {
	x.t.Helper()
	ahead := told(x.n)
	x.says(what, c, refused(e))
	if got := told(x.n); got != ahead {
		x.t.Fatalf("P16.1: %s: %v is refused and changes %s to %s", what, c, ahead, got)
	}
}
