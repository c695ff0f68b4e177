package client_test

import (
	"bytes"
	"errors"
	"fmt"
	"maps"
	"math"
	"slices"
	"strings"
	"testing"

	"redraft/api"
	"redraft/client"
	"redraft/frame"
	"redraft/msg"
	"redraft/op"
)

// Far beside every bound.
var far = []int{math.MinInt, math.MinInt + 1, -1 << 40, 1 << 40, math.MaxInt - 1, math.MaxInt}

// room: the limits in most tests.
var room = api.Limits{Clients: 3, Cells: 100, Ops: 100}

// parse: the operation of a line.
func parse(line string) api.Op {
	o, e := op.Parse(line)
	if e != api.OK {
		panic("no operation: " + line)
	}
	return o
}

// line: an operation as a text.
func line(o api.Op) string {
	if op.Equal(o, api.Op{}) {
		return ""
	}
	s, e := op.Print(o)
	if e != api.OK {
		return fmt.Sprintf("%v (%v)", o, e)
	}
	return s
}

func lines(list []api.Op) []string {
	var out []string
	for _, o := range list {
		out = append(out, line(o))
	}
	return out
}

// sealed: the frame of a message, from the client or to it, as its code has it.
func sealed(m api.Msg) []byte {
	from, to := m.Client, 0
	if m.Code == api.Ack || m.Code == api.Cast {
		from, to = to, from
	}
	p, e := msg.Seal(from, to, m)
	if e != api.OK {
		panic(fmt.Sprintf("no message: %v: %v", m, e))
	}
	return p.Bytes
}

func ackTo(client, rev, seq int) []byte {
	return sealed(api.Msg{Code: api.Ack, Client: client, Rev: rev, Seq: seq})
}

func castTo(client, rev int, o api.Op) []byte {
	return sealed(api.Msg{Code: api.Cast, Client: client, Rev: rev, Op: o})
}

// ack, cast: to client 1.
func ack(rev, seq int) []byte          { return ackTo(1, rev, seq) }
func cast(rev int, line string) []byte { return castTo(1, rev, parse(line)) }
func hello(client, rev int) []byte     { return sealed(api.Msg{Code: api.Hello, Client: client, Rev: rev}) }
func submit(rev int, line string) []byte {
	o := parse(line)
	return sealed(api.Msg{Code: api.Submit, Client: o.ID[0], Rev: rev, Op: o})
}

// raw: a frame of any bytes.
func raw(payload ...byte) []byte {
	b, e := frame.Wrap(payload)
	if e != api.OK {
		panic(e)
	}
	return b
}

// says: a frame as a text: S (with the command), H, A (with the number) or C, and the revision.
func says(b []byte) string {
	m, e := msg.Unseal(b)
	if e != api.OK {
		return fmt.Sprintf("%x", b)
	}
	switch m.Code {
	case api.Hello:
		return fmt.Sprintf("H%d", m.Rev)
	case api.Submit:
		return fmt.Sprintf("S%d %s", m.Rev, line(m.Op))
	case api.Ack:
		return fmt.Sprintf("A%d>%d %d", m.Rev, m.Client, m.Seq)
	}
	return fmt.Sprintf("C%d>%d %s", m.Rev, m.Client, line(m.Op))
}

// sent: packets as a text each; they must be the client's own.
func sent(t *testing.T, user int, ps []api.Packet) []string {
	t.Helper()
	var out []string
	for _, p := range ps {
		m, e := msg.Unseal(p.Bytes)
		if e != api.OK || p.From != user || p.To != 0 || m.Client != user || m.Code != api.Hello && m.Code != api.Submit {
			t.Fatalf("P15.3: a packet from %d to %d: %v, %v", p.From, p.To, m, e)
		}
		out = append(out, says(p.Bytes))
	}
	return out
}

// troubleOf: what an error tells, "" of nil. It must be a Fault around a number.
func troubleOf(t *testing.T, err error) string {
	t.Helper()
	if err == nil {
		return ""
	}
	f, ok := err.(*api.Fault)
	if !ok || f == nil {
		t.Fatalf("P15.1: %T, want a Fault", err)
	}
	e, ok := f.Err.(api.Errno)
	if !ok || e == api.OK || api.Code(err) != e || !errors.Is(err, e) {
		t.Fatalf("P15.1: %T %v within a Fault, want a number", f.Err, f.Err)
	}
	return err.Error()
}

// trouble: as troubleOf tells a Fault around a number; "" with OK.
func trouble(call string, at int, e api.Errno) string {
	if e == api.OK {
		return ""
	}
	return refused(call, at, e).Error()
}

// mustFail: an error must tell just this.
func mustFail(t *testing.T, err error, call string, at int, e api.Errno) {
	t.Helper()
	if got, want := troubleOf(t, err), trouble(call, at, e); got != want {
		t.Fatalf("%q, want %q", got, want)
	}
}

// must: no error.
func must(t *testing.T, err error) {
	t.Helper()
	if err != nil {
		t.Fatal(err)
	}
}

// step: a call with its arguments.
type step struct {
	kind string
	p, n int
	text string
	id   api.ID
	on   bool
}

func (s step) String() string {
	switch s.kind {
	case "Handle":
		return "Handle(" + says([]byte(s.text)) + ")"
	case "Insert":
		return fmt.Sprintf("Insert(%d, %q)", s.p, s.text)
	case "Delete":
		return fmt.Sprintf("Delete(%d, %d)", s.p, s.n)
	case "Move":
		return fmt.Sprintf("Move(%d)", s.p)
	case "Turn":
		return fmt.Sprintf("Turn(%v, %v)", s.id, s.on)
	}
	return s.kind + "()"
}

// Short ways to write steps.
func handle(b []byte) step           { return step{kind: "Handle", text: string(b)} }
func tick() step                     { return step{kind: "Tick"} }
func insert(p int, text string) step { return step{kind: "Insert", p: p, text: text} }
func remove(p, n int) step           { return step{kind: "Delete", p: p, n: n} }
func move(p int) step                { return step{kind: "Move", p: p} }
func undo() step                     { return step{kind: "Undo"} }
func redo() step                     { return step{kind: "Redo"} }
func turn(id api.ID, on bool) step   { return step{kind: "Turn", id: id, on: on} }

// reply: what a step answers: an error, the command that was made, packets.
type reply struct {
	trouble string
	made    string
	packets []api.Packet
}

// pair: a client, and what the chapter says of it, which must answer alike.
type pair struct {
	t     *testing.T
	c     *client.Client
	p     *plain
	steps []step
}

// joined: a client that must be made.
func joined(t *testing.T, user int, lim api.Limits) *client.Client {
	t.Helper()
	c, err := client.New(user, lim)
	if c == nil || err != nil {
		t.Fatalf("P15.2: New(%d, %v): %v", user, lim, err)
	}
	return c
}

func pairOf(t *testing.T, user int, lim api.Limits) *pair {
	t.Helper()
	return &pair{t: t, c: joined(t, user, lim), p: newPlain(user, lim)}
}

// pairAt: client 1 behind these steps.
func pairAt(t *testing.T, steps ...step) *pair {
	t.Helper()
	x := pairOf(t, 1, room)
	x.all(steps...)
	return x
}

// ask: a step of a client.
func ask(t *testing.T, c *client.Client, s step) reply {
	t.Helper()
	var o api.Op
	var err error
	var out reply
	switch s.kind {
	case "Handle":
		err = c.Handle([]byte(s.text))
	case "Tick":
		out.packets = c.Tick()
	case "Insert":
		o, err = c.Insert(s.p, s.text)
	case "Delete":
		o, err = c.Delete(s.p, s.n)
	case "Move":
		err = c.Move(s.p)
	case "Undo":
		o, err = c.Undo()
	case "Redo":
		o, err = c.Redo()
	case "Turn":
		o, err = c.Turn(s.id, s.on)
	default:
		panic("no step: " + s.kind)
	}
	out.trouble, out.made = troubleOf(t, err), line(o)
	return out
}

// want: the same step of the plain one.
func (p *plain) want(t *testing.T, s step) reply {
	t.Helper()
	var o api.Op
	var e api.Errno
	switch s.kind {
	case "Handle":
		return reply{trouble: troubleOf(t, p.handle([]byte(s.text)))}
	case "Tick":
		return reply{packets: p.tick()}
	case "Insert":
		o, e = p.insert(s.p, s.text)
	case "Delete":
		o, e = p.delete(s.p, s.n)
	case "Move":
		e = p.move(s.p)
	case "Undo":
		o, e = p.step(false)
	case "Redo":
		o, e = p.step(true)
	case "Turn":
		o, e = p.turn(s.id, s.on)
	}
	return reply{trouble: trouble(s.kind, s.p, e), made: line(o)}
}

// try: one step of both, whose answers must be the same.
func (x *pair) try(s step) reply {
	x.t.Helper()
	x.steps = append(x.steps, s)
	got, want := ask(x.t, x.c, s), x.p.want(x.t, s)
	if got.trouble != want.trouble || got.made != want.made || !samePackets(got.packets, want.packets) {
		x.t.Fatalf("%v = %q %q %q, want %q %q %q", x.steps, got.trouble, got.made, sent(x.t, x.p.user, got.packets), want.trouble, want.made, sent(x.t, x.p.user, want.packets))
	}
	return got
}

func samePackets(a, b []api.Packet) bool {
	return slices.EqualFunc(a, b, func(p, q api.Packet) bool {
		return p.From == q.From && p.To == q.To && bytes.Equal(p.Bytes, q.Bytes)
	})
}

// do: one step of both, and what can be seen behind it.
func (x *pair) do(s step) reply {
	x.t.Helper()
	got := x.try(s)
	x.see()
	return got
}

// all: steps one behind the other.
func (x *pair) all(steps ...step) {
	x.t.Helper()
	for _, s := range steps {
		x.do(s)
	}
}

// see: all that the client tells, beside the plain one.
func (x *pair) see() {
	x.t.Helper()
	c, p := x.c, x.p
	if a, b := c.Waits(); a != p.sent || b != p.quiet {
		x.t.Fatalf("P15.6: %v: Waits = %d, %d, want %d, %d", x.steps, a, b, p.sent, p.quiet)
	}
	if got, want := c.Held(), slices.Sorted(maps.Keys(p.held)); !slices.Equal(got, want) {
		x.t.Fatalf("P15.6: %v: Held = %v, want %v", x.steps, got, want)
	}
	if c.User() != p.user || c.Received() != p.received || c.Len() != len(p.order) {
		x.t.Fatalf("P15.7: %v: user %d, R %d, %d commands, want %d, %d, %d", x.steps, c.User(), c.Received(), c.Len(), p.user, p.received, len(p.order))
	}
	if c.Text() != p.text() || c.Caret() != p.caret() || c.Gap() != p.gap() {
		x.t.Fatalf("P15.7: %v: %q, caret %d, gap %d, want %q, %d, %d", x.steps, c.Text(), c.Caret(), c.Gap(), p.text(), p.caret(), p.gap())
	}
	if got, want := c.Runs(), p.runs(); !slices.Equal(got, want) {
		x.t.Fatalf("P15.7: %v: cells %v, want %v", x.steps, got, want)
	}
	ops, err := c.Ops(0, c.Len())
	if want := p.ops(); err != nil || !slices.EqualFunc(ops, want, op.Equal) || !slices.EqualFunc(c.Pending(), want[p.received:], op.Equal) {
		x.t.Fatalf("P15.7: %v: commands %q, %v, pending %q, want %q", x.steps, lines(ops), err, lines(c.Pending()), lines(want))
	}
	if undo, redo := c.Stacks(); !slices.Equal(undo, p.undo) || !slices.Equal(redo, p.redo) {
		x.t.Fatalf("P15.7: %v: stacks %v, %v, want %v, %v", x.steps, undo, redo, p.undo, p.redo)
	}
}

// is: a Handle must answer this, with this place; or nil with OK.
func (x *pair) is(b []byte, at int, e api.Errno) {
	x.t.Helper()
	if got, want := x.do(handle(b)).trouble, trouble("Handle", at, e); got != want {
		x.t.Fatalf("P15.4: %v: %q, want %q", x.steps, got, want)
	}
}

// ok: a Handle must answer nil.
func (x *pair) ok(b []byte) {
	x.t.Helper()
	x.is(b, 0, api.OK)
}

// sends: a Tick must send just this.
func (x *pair) sends(want ...string) {
	x.t.Helper()
	if got := sent(x.t, x.p.user, x.do(tick()).packets); !slices.Equal(got, want) {
		x.t.Fatalf("P15.3: %v sends %q, want %q", x.steps, got, want)
	}
}

// makes: a call of the desk must make this command.
func (x *pair) makes(s step, want string) {
	x.t.Helper()
	if got := x.do(s); got.made != want || got.trouble != "" {
		x.t.Fatalf("chapter 8: %v: %q, %q, want %q", x.steps, got.made, got.trouble, want)
	}
}

// waits: sent and quiet.
func (x *pair) waits(sent, quiet int) {
	x.t.Helper()
	if a, b := x.c.Waits(); a != sent || b != quiet {
		x.t.Fatalf("P15.6: %v: Waits = %d, %d, want %d, %d", x.steps, a, b, sent, quiet)
	}
}

// shows: the text, how many commands are received, the pending ones.
func (x *pair) shows(text string, received int, pending ...string) {
	x.t.Helper()
	if got := lines(x.c.Pending()); x.c.Text() != text || x.c.Received() != received || !slices.Equal(got, pending) {
		x.t.Fatalf("P15.7: %v: %q, R %d, pending %q, want %q, %d, %q", x.steps, x.c.Text(), x.c.Received(), got, text, received, pending)
	}
}

// holds: the revisions that are held.
func (x *pair) holds(want ...int) {
	x.t.Helper()
	if got := x.c.Held(); !slices.Equal(got, want) {
		x.t.Fatalf("P15.6: %v: Held = %v, want %v", x.steps, got, want)
	}
}

// told: all that a client shows and tells.
func told(t *testing.T, c *client.Client) string {
	t.Helper()
	a, b := c.Waits()
	undo, redo := c.Stacks()
	out := []string{fmt.Sprintf("%d %d %v %d %d %d %d %v %v %q %v %d %d %d %q", a, b, c.Held(), c.User(), c.Received(), c.Gap(), c.Caret(), undo, redo, c.Text(), c.Runs(), c.Shown(), c.Total(), c.Len(), lines(c.Pending()))}
	ops, err := c.Ops(0, c.Len())
	out = append(out, lines(ops)...)
	out = append(out, troubleOf(t, err))
	for i, o := range ops {
		entry, err := c.Entry(i)
		n, err2 := c.Find(o.ID)
		left, err3 := c.Erase(o.ID)
		out = append(out, fmt.Sprint(entry, troubleOf(t, err), n, troubleOf(t, err2), lines(left), troubleOf(t, err3)))
	}
	return strings.Join(out, "\n")
}

// sendsNext: what the next n ticks of a client send, byte for byte.
func sendsNext(c *client.Client, n int) string {
	var out []string
	for range n {
		for _, p := range c.Tick() {
			out = append(out, fmt.Sprintf("%d>%d %x", p.From, p.To, p.Bytes))
		}
		out = append(out, "|")
	}
	return strings.Join(out, " ")
}
