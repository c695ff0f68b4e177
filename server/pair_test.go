package server_test

import (
	"errors"
	"fmt"
	"math"
	"reflect"
	"slices"
	"strconv"
	"strings"
	"testing"

	"redraft/api"
	"redraft/desk"
	"redraft/disk"
	"redraft/frame"
	"redraft/journal"
	"redraft/msg"
	"redraft/op"
	"redraft/server"
)

// wide: a disk's limit that no test reaches.
const wide = 1 << 24

// Far beside every bound.
var far = []int{math.MinInt, math.MinInt + 1, -1 << 40, 1 << 40, math.MaxInt - 1, math.MaxInt}

// room: the limits in most tests.
var room = api.Limits{Clients: 3, Cells: 100, Ops: 100}

// parse: the operation of a line.
func parse(line string) api.Op {
	o, e := op.Parse(line)
	if e != api.OK {
		panic("no operation: " + line)
	}
	return o
}

// sealed: the frame of a message from its client.
func sealed(m api.Msg) []byte {
	p, e := msg.Seal(m.Client, 0, m)
	if e != api.OK {
		panic(fmt.Sprintf("no message: %v: %v", m, e))
	}
	return p.Bytes
}

func sub(client, rev int, line string) []byte {
	return sealed(api.Msg{Code: api.Submit, Client: client, Rev: rev, Op: parse(line)})
}

func hello(client, rev int) []byte {
	return sealed(api.Msg{Code: api.Hello, Client: client, Rev: rev})
}

// raw: a frame of any bytes.
func raw(payload ...byte) []byte {
	b, e := frame.Wrap(payload)
	if e != api.OK {
		panic(e)
	}
	return b
}

// troubleOf: what an error tells, "" of nil. It must be a Fault around a number, or around one more Fault around it.
func troubleOf(t *testing.T, err error) string {
	t.Helper()
	if err == nil {
		return ""
	}
	f, ok := err.(*api.Fault)
	if !ok || f == nil {
		t.Fatalf("P14.1: %T, want a Fault", err)
	}
	inner := f.Err
	if g, ok := inner.(*api.Fault); ok {
		inner = g.Err
	}
	e, ok := inner.(api.Errno)
	if !ok || e == api.OK || api.Code(err) != e || !errors.Is(err, e) {
		t.Fatalf("P14.1: %T %v within a Fault, want a number", inner, inner)
	}
	return err.Error()
}

// trouble: as troubleOf tells a Fault around a number; "" with OK.
func trouble(call string, at int, e api.Errno) string {
	if e == api.OK {
		return ""
	}
	return (&api.Fault{Call: call, At: at, Err: e}).Error()
}

// mustFail: an error must tell just this.
func mustFail(t *testing.T, err error, call string, at int, e api.Errno) {
	t.Helper()
	if got, want := troubleOf(t, err), trouble(call, at, e); got != want {
		t.Fatalf("%q, want %q", got, want)
	}
}

// must: no error.
func must(t *testing.T, err error) {
	t.Helper()
	if err != nil {
		t.Fatal(err)
	}
}

// line: an operation as a text.
func line(o api.Op) string {
	s, e := op.Print(o)
	if e != api.OK {
		return fmt.Sprintf("%v (%v)", o, e)
	}
	return s
}

func lines(list []api.Op) []string {
	var out []string
	for _, o := range list {
		out = append(out, line(o))
	}
	return out
}

// told: packets as a text: A or C, the revision, > and the client; of a Cast the command, of an Ack its number.
func told(t *testing.T, ps []api.Packet) []string {
	t.Helper()
	var out []string
	for _, p := range ps {
		m, e := msg.Unseal(p.Bytes)
		if e != api.OK || p.From != 0 || p.To != m.Client {
			t.Fatalf("P14.5: a packet from %d to %d: %v, %v", p.From, p.To, m, e)
		}
		where := strconv.Itoa(m.Rev) + ">" + strconv.Itoa(m.Client) + " "
		if m.Code == api.Ack {
			out = append(out, "A"+where+strconv.Itoa(m.Seq))
		} else {
			out = append(out, "C"+where+line(m.Op))
		}
	}
	return out
}

// short: as told, without what the packets tell of the commands.
func short(t *testing.T, ps []api.Packet) string {
	t.Helper()
	var out []string
	for _, s := range told(t, ps) {
		head, _, _ := strings.Cut(s, " ")
		out = append(out, head)
	}
	return strings.Join(out, " ")
}

// step: a call with its arguments: of server number a (Handle, Tick, Log), or of the disk.
type step struct {
	kind string
	a    int
	text string
	b, c int
	lim  api.Limits
}

func (s step) String() string {
	text := fmt.Sprintf("%x", s.text)
	m, e := msg.Unseal([]byte(s.text))
	switch {
	case e == api.OK && m.Code == api.Hello:
		text = fmt.Sprintf("hello %d, %d", m.Client, m.Rev)
	case e == api.OK && m.Code == api.Submit:
		text = fmt.Sprintf("submit %d, %d: %s", m.Client, m.Rev, line(m.Op))
	}
	return fmt.Sprintf("%s(%d, %s, %d, %d, %v)", s.kind, s.a, text, s.b, s.c, s.lim)
}

// Short ways to write steps. Those of servers are of number 0, others are made of them by on.
func booted() step                   { return step{kind: "Boot", lim: room} }
func bootedAs(lim api.Limits) step   { return step{kind: "Boot", lim: lim} }
func handle(b []byte) step           { return step{kind: "Handle", text: string(b)} }
func tick() step                     { return step{kind: "Tick"} }
func logged(lo, hi int) step         { return step{kind: "Log", b: lo, c: hi} }
func crash(keep int) step            { return step{kind: "Crash", b: keep} }
func up() step                       { return step{kind: "Up"} }
func arm(steps, keep int) step       { return step{kind: "Arm", b: steps, c: keep} }
func fileAppend(b []byte) step       { return step{kind: "disk.Append", text: string(b)} }
func fileSync() step                 { return step{kind: "disk.Sync"} }
func fileCut(size int) step          { return step{kind: "disk.Cut", b: size} }
func fileRemove() step               { return step{kind: "disk.Remove"} }
func fileTurn(at int, mask int) step { return step{kind: "disk.Turn", b: at, c: mask} }

func (s step) on(i int) step {
	s.a = i
	return s
}

// reply: what a step answers.
type reply struct {
	packets []api.Packet
	ops     []string
	trouble string
	e       api.Errno // of a step of the disk
}

// pair: servers on a disk, and what the chapter says of them on another, which must answer alike.
type pair struct {
	t     *testing.T
	d, e  *disk.Disk
	ss    []*server.Server
	ps    []*plain
	steps []step
}

// made: a new disk.
func made(t *testing.T, limit int) *disk.Disk {
	t.Helper()
	d, e := disk.New(limit)
	if d == nil || e != api.OK {
		t.Fatalf("chapter 11: New(%d) = %d", limit, e)
	}
	return d
}

func newPair(t *testing.T, limit int) *pair {
	t.Helper()
	return &pair{t: t, d: made(t, limit), e: made(t, limit)}
}

// pairAt: a pair with one server, behind these steps.
func pairAt(t *testing.T, steps ...step) *pair {
	t.Helper()
	x := newPair(t, wide)
	x.do(booted())
	x.all(steps...)
	return x
}

// onDisk: a step of the disk alone.
func onDisk(d *disk.Disk, s step) reply {
	const name = "journal"
	var out reply
	switch s.kind {
	case "disk.Append":
		_, out.e = d.Append(name, []byte(s.text))
	case "disk.Sync":
		out.e = d.Sync(name)
	case "disk.Cut":
		out.e = d.Cut(name, s.b)
	case "disk.Remove":
		out.e = d.Remove(name)
	case "disk.Turn":
		out.e = d.Turn(name, s.b, byte(s.c))
	case "Crash":
		out.e = d.Crash(s.b)
	case "Up":
		out.e = d.Up()
	case "Arm":
		out.e = d.Arm(s.b, s.c)
	default:
		panic("no step: " + s.kind)
	}
	return out
}

// ask: a step of the servers.
func (x *pair) ask(s step) reply {
	var out reply
	var err error
	var list []api.Op
	switch s.kind {
	case "Boot":
		var n *server.Server
		n, err = server.Boot(x.d, s.lim)
		if (n == nil) != (err != nil) {
			x.t.Fatalf("P14.2: %v: a server %v, error %v", x.steps, n != nil, err)
		}
		if n != nil {
			x.ss = append(x.ss, n)
		}
	case "Handle":
		err = x.ss[s.a].Handle([]byte(s.text))
	case "Tick":
		out.packets, err = x.ss[s.a].Tick()
	case "Log":
		list, err = x.ss[s.a].Log(s.b, s.c)
	default:
		return onDisk(x.d, s)
	}
	out.ops, out.trouble = lines(list), troubleOf(x.t, err)
	return out
}

// want: the same step of the plain ones.
func (x *pair) want(s step) reply {
	var out reply
	var err error
	var list []api.Op
	switch s.kind {
	case "Boot":
		var p *plain
		if p, err = bootPlain(x.e, s.lim); err == nil {
			x.ps = append(x.ps, p)
		}
	case "Handle":
		err = x.ps[s.a].handle([]byte(s.text))
	case "Tick":
		out.packets, err = x.ps[s.a].tick()
	case "Log":
		list, err = x.ps[s.a].log(s.b, s.c)
	default:
		return onDisk(x.e, s)
	}
	out.ops, out.trouble = lines(list), troubleOf(x.t, err)
	return out
}

// do: one step of both, and what can be seen behind it.
func (x *pair) do(s step) reply {
	x.t.Helper()
	x.steps = append(x.steps, s)
	got, want := x.ask(s), x.want(s)
	if len(got.packets) == 0 {
		got.packets = nil
	}
	if !reflect.DeepEqual(got, want) {
		x.t.Fatalf("%v = %q %q %q %v, want %q %q %q %v", x.steps, told(x.t, got.packets), got.ops, got.trouble, got.e, told(x.t, want.packets), want.ops, want.trouble, want.e)
	}
	if got, want := show(x.d), show(x.e); got != want {
		x.t.Fatalf("P14.7: %v: the disk is %s, want %s", x.steps, got, want)
	}
	for i := range x.ss {
		x.see(i)
	}
	return got
}

// see: P14.6: what server number i tells.
func (x *pair) see(i int) {
	x.t.Helper()
	s, p := x.ss[i], x.ps[i]
	if s.Revision() != len(p.order) || s.Durable() != p.durable {
		x.t.Fatalf("P14.6: %v: server %d: Revision %d, Durable %d, want %d, %d", x.steps, i, s.Revision(), s.Durable(), len(p.order), p.durable)
	}
	var known []int
	for c := 1; c <= 8; c++ {
		if p.known[c] == 1 {
			known = append(known, c)
		}
	}
	if got := s.Known(); !slices.Equal(got, known) {
		x.t.Fatalf("P14.6: %v: server %d: Known %v, want %v", x.steps, i, got, known)
	}
	for c := -1; c <= 10; c++ {
		if want, _, _ := p.by(c); s.Last(c) != want {
			x.t.Fatalf("P14.6: %v: server %d: Last(%d) = %d, want %d", x.steps, i, c, s.Last(c), want)
		}
	}
	if got, err := s.Log(0, s.Revision()); err != nil || !slices.Equal(lines(got), lines(p.ops(0, len(p.order)))) {
		x.t.Fatalf("P14.6: %v: server %d: Log = %q, %v, want %q", x.steps, i, lines(got), err, lines(p.ops(0, len(p.order))))
	}
	runs := p.order[:p.durable].runs()
	if s.Len() != p.durable || s.Text() != textOf(runs) || !slices.Equal(s.Runs(), runs) {
		x.t.Fatalf("P14.6: %v: server %d: Len %d, Text %q, Runs %v, want %d, %q, %v", x.steps, i, s.Len(), s.Text(), s.Runs(), p.durable, textOf(runs), runs)
	}
}

// show: a disk's files as a text, name:bytes/durable, and whether it is down.
func show(d *disk.Disk) string {
	var out []string
	for _, f := range d.Files() {
		out = append(out, fmt.Sprintf("%s:%x/%d", f.Name, f.Bytes, f.Synced))
	}
	return fmt.Sprint(strings.Join(out, " "), " down ", d.Down())
}

// all: steps one behind the other.
func (x *pair) all(steps ...step) {
	x.t.Helper()
	for _, s := range steps {
		x.do(s)
	}
}

// is: a Handle, Tick or Boot must answer this number, or none with OK.
func (x *pair) is(s step, e api.Errno) reply {
	x.t.Helper()
	got := x.do(s)
	if want := trouble(s.kind, 0, e); got.trouble != want {
		x.t.Fatalf("%v: %q, want %q", x.steps, got.trouble, want)
	}
	return got
}

// tells: a Tick of server number 0 must answer these packets.
func (x *pair) tells(want string) {
	x.t.Helper()
	if got := short(x.t, x.is(tick(), api.OK).packets); got != want {
		x.t.Fatalf("P14.5: %v tells %q, want %q", x.steps, got, want)
	}
}

// holds: the last server's counts and text.
func (x *pair) holds(revision, durable int, text string) {
	x.t.Helper()
	isAt(x.t, x.ss[len(x.ss)-1], revision, durable, text)
}

func isAt(t *testing.T, s *server.Server, revision, durable int, text string) {
	t.Helper()
	if s.Revision() != revision || s.Durable() != durable || s.Text() != text {
		t.Fatalf("P14.6: Revision %d, Durable %d, Text %q, want %d, %d, %q", s.Revision(), s.Durable(), s.Text(), revision, durable, text)
	}
}

// knows: the last server's known clients.
func (x *pair) knows(want ...int) {
	x.t.Helper()
	if got := x.ss[len(x.ss)-1].Known(); !slices.Equal(got, want) {
		x.t.Fatalf("P14.6: %v: Known %v, want %v", x.steps, got, want)
	}
}

// boot: a server that must boot.
func boot(t *testing.T, d *disk.Disk, lim api.Limits) *server.Server {
	t.Helper()
	s, err := server.Boot(d, lim)
	if s == nil || err != nil {
		t.Fatalf("P14.2: Boot: %v", err)
	}
	return s
}

// logOf: all that a server has written.
func logOf(t *testing.T, s *server.Server) []string {
	t.Helper()
	list, err := s.Log(0, s.Revision())
	must(t, err)
	return lines(list)
}

// written: a disk with a journal of these records.
func written(t *testing.T, records ...[]byte) *disk.Disk {
	t.Helper()
	d := made(t, wide)
	j, _, _, err := journal.Open(d, "journal")
	must(t, err)
	for _, r := range records {
		must(t, j.Append(r))
	}
	must(t, j.Sync())
	return d
}

// coded: the record of a line.
func coded(line string) []byte {
	b, e := msg.EncodeOp(parse(line))
	if e != api.OK {
		panic("no command: " + line)
	}
	return b
}

func allCoded(lines ...string) [][]byte {
	var out [][]byte
	for _, l := range lines {
		out = append(out, coded(l))
	}
	return out
}

// viewOf: a view of these commands, which the server's must be alike.
func viewOf(t *testing.T, list []api.Op) *desk.Replica {
	t.Helper()
	r := desk.NewReplica()
	for k, o := range list {
		if _, err := r.Put(k, o); err != nil {
			t.Fatalf("chapter 8: Put(%d, %s): %v", k, line(o), err)
		}
	}
	return r
}
