package world_test

import (
	"fmt"
	"math"
	"slices"
	"strings"
	"testing"

	"redraft/api"
	"redraft/msg"
	"redraft/op"
	"redraft/world"
)

// Far beside every bound.
var far = []int{math.MinInt, math.MinInt + 1, -1 << 40, 1 << 40, math.MaxInt - 1, math.MaxInt}

// room: the limits in most tests.
var room = api.Limits{Clients: 2, Cells: 100, Ops: 100}

// Short ways to write steps.
func join(n int) api.Step { return api.Step{Kind: api.StepJoin, Node: n} }
func ins(n, p int, text string) api.Step {
	return api.Step{Kind: api.StepInsert, Node: n, A: p, Text: text}
}
func del(n, p, k int) api.Step { return api.Step{Kind: api.StepDelete, Node: n, A: p, B: k} }
func move(n, p int) api.Step   { return api.Step{Kind: api.StepMove, Node: n, A: p} }
func undo(n int) api.Step      { return api.Step{Kind: api.StepUndo, Node: n} }
func redo(n int) api.Step      { return api.Step{Kind: api.StepRedo, Node: n} }
func off(n, client, number int) api.Step {
	return api.Step{Kind: api.StepUndoOp, Node: n, ID: api.ID{client, number}}
}
func on(n, client, number int) api.Step {
	return api.Step{Kind: api.StepRedoOp, Node: n, ID: api.ID{client, number}}
}
func tick(n int) api.Step    { return api.Step{Kind: api.StepTick, Node: n} }
func deliver(k int) api.Step { return api.Step{Kind: api.StepDeliver, A: k} }
func drop(k int) api.Step    { return api.Step{Kind: api.StepDrop, A: k} }
func double(k int) api.Step  { return api.Step{Kind: api.StepCopy, A: k} }
func spoil(k, at, mask int) api.Step {
	return api.Step{Kind: api.StepSpoil, A: k, B: at, ID: api.ID{mask, 0}}
}
func junk(n int, text string) api.Step { return api.Step{Kind: api.StepJunk, Node: n, Text: text} }
func arm(steps, keep int) api.Step     { return api.Step{Kind: api.StepArm, A: steps, B: keep} }
func boot(steps, keep int) api.Step    { return api.Step{Kind: api.StepBoot, A: steps, B: keep} }
func view(n int) api.Step              { return api.Step{Kind: api.StepView, Node: n} }
func settle() api.Step                 { return api.Step{Kind: api.StepSettle} }

// joins: all clients of the room begin.
func joins(lim api.Limits) []api.Step {
	var out []api.Step
	for c := 1; c <= lim.Clients; c++ {
		out = append(out, join(c))
	}
	return out
}

// Short ways to write answers.
var ok = api.Answer{}

func fails(e api.Errno) api.Answer               { return api.Answer{Code: e} }
func says(n, m int, text string) api.Answer      { return api.Answer{N: n, M: m, Text: text} }
func comes(e api.Errno, to, from int) api.Answer { return api.Answer{Code: e, N: to, M: from} }

// line: an operation as a text.
func line(o api.Op) string {
	s, e := op.Print(o)
	if e != api.OK {
		return fmt.Sprintf("%v (%d)", o, int(e))
	}
	return s
}

func lines(list []api.Op) []string {
	var out []string
	for _, o := range list {
		out = append(out, line(o))
	}
	return out
}

// flightText: a packet in flight as a text.
func flightText(f api.Flight) string {
	what := fmt.Sprintf("%x", f.Packet.Bytes)
	if m, e := msg.Unseal(f.Packet.Bytes); e == api.OK {
		what = fmt.Sprintf("%d of %d, rev %d", m.Code, m.Client, m.Rev)
		switch m.Code {
		case api.Ack:
			what += fmt.Sprintf(", number %d", m.Seq)
		case api.Submit, api.Cast:
			what += ", " + line(m.Op)
		}
	}
	return fmt.Sprintf("#%d %d>%d [%s] %v", f.Number, f.Packet.From, f.Packet.To, what, f.Spoilt)
}

func flightTexts(list []api.Flight) string {
	var out []string
	for _, f := range list {
		out = append(out, flightText(f))
	}
	return strings.Join(out, "; ")
}

func fileTexts(list []api.File) string {
	var out []string
	for _, f := range list {
		out = append(out, fmt.Sprintf("%s:%x/%d", f.Name, f.Bytes, f.Synced))
	}
	return strings.Join(out, " ")
}

// pair: a world, and what the chapter says of it, which must answer alike.
type pair struct {
	t     *testing.T
	w     *world.World
	p     *plain
	steps []api.Step
}

// made: a new world.
func made(t *testing.T, lim api.Limits) *world.World {
	t.Helper()
	w, e := world.New(lim)
	if w == nil || e != api.OK {
		t.Fatalf("P17.1: New(%v) = %d", lim, int(e))
	}
	return w
}

func newPair(t *testing.T, lim api.Limits) *pair {
	t.Helper()
	p, e := newPlain(lim, nil)
	if e != api.OK {
		t.Fatal(e)
	}
	x := &pair{t: t, w: made(t, lim), p: p}
	x.see()
	return x
}

// pairAt: a pair for two in which both have joined, behind these steps.
func pairAt(t *testing.T, steps ...api.Step) *pair {
	t.Helper()
	x := newPair(t, room)
	x.all(joins(room)...)
	x.all(steps...)
	return x
}

// try: one step of both.
func (x *pair) try(s api.Step) api.Answer {
	x.t.Helper()
	x.steps = append(x.steps, s)
	got, want := x.w.Play(s), x.p.play(s)
	if got != want {
		x.t.Fatalf("P17.1: %s: %+v, want %+v", x.script(), got, want)
	}
	return got
}

// do: one step of both, and what can be seen behind it.
func (x *pair) do(s api.Step) api.Answer {
	x.t.Helper()
	got := x.try(s)
	x.see()
	return got
}

// all: steps one behind the other.
func (x *pair) all(steps ...api.Step) {
	x.t.Helper()
	for _, s := range steps {
		x.do(s)
	}
}

// is: a step must answer this.
func (x *pair) is(s api.Step, want api.Answer) {
	x.t.Helper()
	if got := x.do(s); got != want {
		x.t.Fatalf("P17.1: %s: %+v, want %+v", x.script(), got, want)
	}
}

// shows: a node's text and caret.
func (x *pair) shows(n int, text string, caret int) {
	x.t.Helper()
	if v := x.w.Views()[n]; v.Text != text || v.Caret != caret {
		x.t.Fatalf("P2: %s: node %d shows %q with the caret at %d, want %q, %d", x.script(), n, v.Text, v.Caret, text, caret)
	}
}

// script: the steps so far, of a failure.
func (x *pair) script() string {
	var out []string
	for _, s := range x.steps {
		out = append(out, stepText(s))
	}
	return strings.Join(out, "; ")
}

var words = []string{"none", "join", "ins", "del", "move", "undo", "redo", "off", "on", "tick", "deliver", "drop", "copy", "spoil", "junk", "arm", "boot", "view", "settle"}

func stepText(s api.Step) string {
	word := fmt.Sprintf("kind %d", int(s.Kind))
	if s.Kind > 0 && int(s.Kind) < len(words) {
		word = words[s.Kind]
	}
	return fmt.Sprintf("%s %d %d %d %q %v", word, s.Node, s.A, s.B, s.Text, s.ID)
}

// see: P17.2 and what else the world tells.
func (x *pair) see() {
	x.t.Helper()
	if got, want := x.w.Views(), x.p.views(); !slices.Equal(got, want) {
		x.t.Fatalf("P17.2: %s: Views %+v, want %+v", x.script(), got, want)
	}
	if got, want := x.w.Bound(), x.p.bound(); got != want {
		x.t.Fatalf("P17.4: %s: Bound %d, want %d", x.script(), got, want)
	}
	x.seeOps()
	if got := x.w.Files(); !slices.EqualFunc(got, x.p.d.list(), sameFile) {
		x.t.Fatalf("P17.1: %s: Files %s, want %s", x.script(), fileTexts(got), fileTexts(x.p.d.list()))
	}
	if got := x.w.Flights(); !slices.EqualFunc(got, x.p.net, sameFlight) {
		x.t.Fatalf("P17.1: %s: Flights %s, want %s", x.script(), flightTexts(got), flightTexts(x.p.net))
	}
}

func sameFile(a, b api.File) bool {
	return a.Name == b.Name && string(a.Bytes) == string(b.Bytes) && a.Synced == b.Synced
}

func sameFlight(a, b api.Flight) bool {
	return a.Number == b.Number && a.Spoilt == b.Spoilt && a.Packet.From == b.Packet.From && a.Packet.To == b.Packet.To && string(a.Packet.Bytes) == string(b.Packet.Bytes)
}

// seeOps: Ops of each node and beside them, and Order.
func (x *pair) seeOps() {
	x.t.Helper()
	for n := -1; n <= x.p.lim.Clients+1; n++ {
		got, e := x.w.Ops(n)
		want, f := x.p.ops(n)
		if e != f || !slices.EqualFunc(got, want, op.Equal) {
			x.t.Fatalf("P17.2: %s: Ops(%d) = %q, %d, want %q, %d", x.script(), n, lines(got), int(e), lines(want), int(f))
		}
	}
	var want []api.ID
	for _, m := range x.p.hub.view.list {
		want = append(want, m.ID)
	}
	if got := x.w.Order(); !slices.Equal(got, want) {
		x.t.Fatalf("P17.3: %s: Order %v, want %v", x.script(), got, want)
	}
}
