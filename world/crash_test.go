package world_test

import (
	"math/rand"
	"slices"
	"testing"

	"redraft/api"
	"redraft/msg"
)

// watch: a pair, and what has been seen of the order: P7 and P17.3 of DOC.md and the chapter, told from outside.
type watch struct {
	*pair
	told    map[int]api.ID // by revision: what was ever acked or cast
	order   []api.ID       // all that the server has written
	durable int            // how many of these are durable
	met     api.ID         // the command whose writing met a crash
	crashes int
}

func watching(x *pair) *watch { return &watch{pair: x, told: map[int]api.ID{}, order: x.w.Order()} }

// submitted: the command that a step brings to the server, if it does.
func (h *watch) submitted(s api.Step) api.ID {
	for _, f := range h.p.net {
		if m, e := msg.Unseal(f.Packet.Bytes); s.Kind == api.StepDeliver && f.Number == s.A && e == api.OK && m.Code == api.Submit {
			return m.Op.ID
		}
	}
	return api.ID{}
}

// step: one step, and what follows of it for the order.
func (h *watch) step(s api.Step) api.Answer {
	h.t.Helper()
	id, ran := h.submitted(s), h.w.Views()[0].Up
	a := h.do(s)
	runs := h.w.Views()[0].Up
	switch {
	case ran && !runs:
		h.met = id // none, if it was a Tick
		h.crashes++
	case !ran && runs || s.Kind == api.StepSettle:
		h.booted(s)
	case id != api.ID{} && a.Code == api.OK && !slices.Contains(h.order, id):
		h.order = append(slices.Clone(h.order), id)
	case s.Kind == api.StepTick && s.Node == 0 && a.Code == api.OK:
		h.durable = len(h.order)
	}
	h.look()
	return a
}

// booted: P7: the server that is booted has a prefix of the order that there was, not shorter than what was durable. (Behind Settle it has grown since.)
func (h *watch) booted(s api.Step) {
	h.t.Helper()
	now, was := h.w.Order(), h.order
	if h.met != (api.ID{}) {
		was = append(slices.Clone(was), h.met)
	}
	n := len(now)
	if s.Kind == api.StepSettle {
		n = min(n, len(was))
		for n > h.durable && now[n-1] != was[n-1] {
			n--
		}
	}
	if n < h.durable || n > len(was) || !slices.Equal(now[:n], was[:n]) {
		h.t.Fatalf("P7: %s: booted with %v; the order was %v, %d durable, met %v", h.script(), now, h.order, h.durable, h.met)
	}
	h.order, h.durable, h.met = now, len(now), api.ID{}
}

// look: P17.3.
func (h *watch) look() {
	h.t.Helper()
	for _, f := range h.w.Flights() {
		m, e := msg.Unseal(f.Packet.Bytes)
		if e != api.OK || f.Packet.From != 0 {
			continue
		}
		id := m.Op.ID
		if m.Code == api.Ack {
			id = api.ID{m.Client, m.Seq}
		}
		if was, known := h.told[m.Rev]; known && was != id {
			h.t.Fatalf("P17.3: %s: revision %d is told as %v and as %v", h.script(), m.Rev, was, id)
		}
		h.told[m.Rev] = id
	}
	now := h.w.Order()
	for rev, id := range h.told {
		if rev > len(now) || now[rev-1] != id {
			h.t.Fatalf("P17.3: %s: %v was told as revision %d; the order is %v", h.script(), id, rev, now)
		}
	}
	next := map[int]int{}
	for _, id := range now {
		if next[id[0]]++; id[1] != next[id[0]] {
			h.t.Fatalf("P17.3: %s: %v stands in the order %v", h.script(), id, now)
		}
	}
	h.lookAtClients()
}

// lookAtClients: P17.3: the received commands are the first ones of the order.
func (h *watch) lookAtClients() {
	h.t.Helper()
	journal, _ := h.w.Ops(0)
	for n, v := range h.w.Views() {
		if !v.Up {
			continue
		}
		ops, e := h.w.Ops(n)
		if e != api.OK || v.Known > len(journal) || len(ops) != v.Known+v.Pending || !slices.Equal(lines(ops[:v.Known]), lines(journal[:v.Known])) {
			h.t.Fatalf("P17.3: %s: node %d has %q, of which %d are received; the journal is %q", h.script(), n, lines(ops), v.Known, lines(journal))
		}
	}
}

// work: a fixed day's work: each round all that is under way comes, but for every fifth packet, and somebody types.
func (h *watch) work(rounds int) {
	h.t.Helper()
	for i := range rounds {
		c := 1 + i%2
		if n := len([]rune(h.w.Views()[c].Text)); n > 3 && i%4 == 3 {
			h.step(del(c, 1, 2))
		} else if i%5 == 4 {
			h.step(undo(c))
		} else {
			h.step(ins(c, n/2, "typed"[:1+i%5]))
		}
		for _, f := range h.w.Flights() {
			if f.Number%5 != 4 {
				h.step(deliver(f.Number))
			}
		}
		for n := range 3 {
			h.step(tick(n))
		}
		if h.crashes > 0 && !h.p.runs {
			return
		}
	}
}

// crashAt: the day's work, given up where the disk's n-th changing call crashes, of whose loose bytes so many stay.
func crashAt(t *testing.T, n, keep int) *watch {
	t.Helper()
	h := watching(pairAt(t))
	h.step(arm(n, keep))
	h.work(16)
	return h
}

// journalSize: the bytes of the journal.
func (h *watch) journalSize() int {
	size := 0
	for _, f := range h.w.Files() {
		size += len(f.Bytes)
	}
	return size
}

// P7: a crash in each call that changes the disk, with every number of bytes that may stay; then Boots that crash too; the work goes on, and all is there once.
func TestP7EveryCrash(t *testing.T) {
	for n := 1; ; n++ {
		whole := crashAt(t, n, far[5])
		if whole.p.runs {
			if n < 15 {
				t.Fatalf("only %d calls change the disk", n)
			}
			return
		}
		loose := whole.journalSize() - crashAt(t, n, 0).journalSize()
		if loose == 0 {
			t.Fatalf("P7: nothing was loose at call %d", n)
		}
		for keep := range loose + 2 {
			h := crashAt(t, n, keep)
			written := len(h.order)
			if h.met != (api.ID{}) {
				written++
			}
			h.step(boot(1, keep/2))
			if !h.p.runs {
				h.step(boot(2, 0))
				h.step(boot(0, 0))
			}
			h.step(arm(0, 0)) // a Boot that did not come to its crash has left the disk armed
			if got := len(h.w.Order()); keep >= loose && got != written || keep < loose && got >= written {
				t.Fatalf("P7: %d of %d commands are left where %d of %d bytes stay", got, written, keep, loose)
			}
			h.work(4)
			if a := h.step(settle()); a.Code != api.OK {
				t.Fatalf("P8: %s: %+v", h.script(), a)
			}
			h.allThere()
		}
	}
}

// allThere: of a world that has settled: every command that any client has made stands in the order once.
func (h *watch) allThere() {
	h.t.Helper()
	made := 0
	for _, u := range h.p.users {
		if u != nil {
			n, _, _ := u.by(u.number)
			made += n
		}
	}
	if got := len(h.w.Order()); got != made {
		h.t.Fatalf("P7: %s: %d commands stand in the order, %d were made", h.script(), got, made)
	}
}

// P7, P17.3: long lives, in which the disk gives up again and again.
func TestP7Long(t *testing.T) {
	crashes := 0
	for seed := range int64(250) {
		r := rand.New(rand.NewSource(1700 + seed))
		h := watching(randomPair(t, r))
		w := weathers[3*r.Intn(2)]
		for range 150 {
			h.step(randomStep(r, h.p, w))
		}
		h.step(settle())
		h.allThere()
		crashes += h.crashes
	}
	if crashes < 200 {
		t.Errorf("only %d crashes", crashes)
	}
}

// lastSubmit: the number of the Submit that was sent last.
func lastSubmit(x *pair) int {
	x.t.Helper()
	for _, f := range slices.Backward(x.p.net) {
		if m, e := msg.Unseal(f.Packet.Bytes); e == api.OK && m.Code == api.Submit {
			return f.Number
		}
	}
	x.t.Fatalf("%s: no Submit is under way", x.script())
	return 0
}

// P17.1: Arm: its errors, and which call it is that crashes.
func TestP17_1Arm(t *testing.T) {
	x := pairAt(t, ins(1, 0, "a"), ins(2, 0, "b"), tick(1), tick(2))
	for _, n := range []int{-1, far[0], far[1], far[2]} {
		x.is(arm(n, 0), fails(api.ErrPlace))
		x.is(arm(n, n), fails(api.ErrPlace))
		x.is(arm(1, n), fails(api.ErrPlace))
		x.is(arm(0, n), ok) // how many stay is not looked at
	}
	x.is(arm(far[5], far[5]), ok)
	x.is(arm(1, 0), ok)
	x.is(arm(3, 0), ok)                   // it counts anew
	x.is(deliver(0), comes(api.OK, 0, 1)) // an Append
	x.is(arm(-1, 0), fails(api.ErrPlace)) // still the third
	x.is(deliver(1), comes(api.OK, 0, 1)) // a Hello: the disk is not asked
	x.is(deliver(2), comes(api.OK, 0, 2)) // an Append
	x.is(tick(0), fails(api.ErrStopped))  // the Sync
	x.is(view(0), ok)
	x.is(boot(0, 0), ok) // nothing is left: nothing was durable, and nothing stayed
	x.is(arm(1, 0), ok)
	x.is(arm(0, 0), ok)
	if a := x.do(settle()); a.Code != api.OK {
		t.Fatalf("P17.4: %+v", a)
	}
	x.is(arm(1, 0), ok)
	x.is(tick(0), says(0, x.p.next, "")) // nothing to sync
	x.is(settle(), ok)                   // the disk is disarmed, though all is settled
	x.all(ins(1, 0, "k"), tick(1))
	x.is(deliver(lastSubmit(x)), comes(api.OK, 0, 1))
}

// P17.1: Boot: its errors, and what it leaves.
func TestP17_1Boot(t *testing.T) {
	for _, x := range states(t)[:3] {
		for _, n := range append([]int{-1, 0, 1}, far...) {
			x.is(boot(n, n), fails(api.ErrUp))
			x.is(boot(0, n), fails(api.ErrUp))
		}
	}
	x := downPair(t) // the crash has left seven bytes of a record
	for _, n := range []int{-1, far[0], far[1], far[2]} {
		x.is(boot(n, 0), fails(api.ErrPlace))
		x.is(boot(0, n), fails(api.ErrPlace))
		x.is(boot(1, n), fails(api.ErrPlace))
		x.is(boot(n, n), fails(api.ErrPlace))
	}
	torn := fileTexts(x.w.Files())
	for _, keep := range append([]int{0, 3}, far[5]) {
		x.is(boot(1, keep), fails(api.ErrStopped)) // its Cut crashes
		x.is(view(0), says(0, 1, "ab"))
		x.is(tick(0), fails(api.ErrStopped))
		x.is(arm(0, 0), fails(api.ErrStopped))
		if got := fileTexts(x.w.Files()); got != torn {
			t.Fatalf("P17.1: Files %s, were %s", got, torn)
		}
	}
	x.is(boot(2, 0), says(1, 0, "")) // the Cut is the first: the next call that changes the disk crashes
	if got := fileTexts(x.w.Files()); got == torn {
		t.Fatalf("P17.1: Files %s: the torn record is still there", got)
	}
	for range 4 {
		x.do(tick(2))
	}
	x.is(deliver(lastSubmit(x)), comes(api.ErrStopped, 0, 2))
	x.is(boot(1, 5), says(1, 0, "")) // nothing is torn: it does not come to a crash
	for range 4 {
		x.do(tick(2))
	}
	x.is(deliver(lastSubmit(x)), comes(api.ErrStopped, 0, 2))
	x.is(boot(0, 99), says(1, 0, ""))
	x.do(settle())
}

// P7: the command whose writing crashes may be there whole: every number of bytes kept.
func TestP7WholeRecord(t *testing.T) {
	size := len(fileOf(`1.1 ins 0 "a"`))
	for keep := range size + 3 {
		x := pairAt(t, ins(1, 0, "a"), tick(1), arm(1, keep))
		x.is(deliver(0), comes(api.ErrStopped, 0, 1))
		x.is(view(0), ok)
		if len(x.w.Order()) > 0 {
			t.Fatalf("P17.3: Order %v: it was not durable when the server stopped", x.w.Order())
		}
		n := 0
		if keep >= size {
			n = 1
		}
		x.is(boot(0, 0), says(n, 0, ""))
		if got := len(x.w.Order()); got != n {
			t.Fatalf("P7: %d bytes of %d are kept: %d commands", keep, size, got)
		}
		x.do(settle())
		if got := x.w.Order(); !slices.Equal(got, []api.ID{{1, 1}}) {
			t.Fatalf("P7: Order %v", got)
		}
	}
}

// A server that comes back knows nobody: who said Hello to the old one is told nothing until it speaks again.
func TestBootForgets(t *testing.T) {
	x := first(t)
	x.all(deliver(3), ins(1, 0, "k"), tick(1), arm(1, 0))
	x.is(deliver(5), comes(api.ErrStopped, 0, 1))
	x.is(boot(0, 0), says(1, 0, ""))
	x.is(ins(2, 0, "z"), says(1, 1, `2.1 ins 0 "z"`))
	x.is(tick(2), says(1, 7, ""))
	x.is(deliver(6), comes(api.OK, 0, 2))
	x.is(tick(0), says(1, 8, "")) // an Ack to 2; 1 is not known
	x.do(settle())
	x.shows(1, "zkab", 2) // z was written first
}
