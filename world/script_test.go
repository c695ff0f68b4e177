package world_test

import (
	"math/rand"
	"slices"
	"testing"

	"redraft/api"
	"redraft/frame"
)

// near: a number from a little below lo to a little above hi, seldom one that is far.
func near(r *rand.Rand, lo, hi int) int {
	if r.Intn(60) == 0 {
		return far[r.Intn(len(far))]
	}
	if r.Intn(12) == 0 {
		return lo - 1 + (hi-lo+2)*r.Intn(2)
	}
	return lo + r.Intn(hi-lo+1)
}

var texts = []string{"a", "b", "xy", "é", "€uro", "𝄞", "\n", "a\tb", "", "\xff", "\x00", "abcdefghij"}

// randomNode: most often one that is there.
func randomNode(r *rand.Rand, p *plain) int { return near(r, 0, p.lim.Clients) }

// randomID: most often one of the user's view.
func randomID(r *rand.Rand, u *user) api.ID {
	if u == nil || len(u.list) == 0 || r.Intn(15) == 0 {
		return api.ID{near(r, 1, 3), near(r, 1, 5)}
	}
	return u.list[r.Intn(len(u.list))].ID
}

// randomCall: a step of a user.
func randomCall(r *rand.Rand, p *plain) api.Step {
	n := near(r, 1, p.lim.Clients)
	u, _ := p.client(n)
	v := 0
	if u != nil {
		v = len(u.see().visible())
	}
	switch r.Intn(12) {
	case 0, 1, 2, 3:
		return ins(n, near(r, 0, v), texts[r.Intn(len(texts))])
	case 4, 5:
		at := near(r, 0, max(0, v-1))
		return del(n, at, near(r, 1, max(1, min(3, v-at))))
	case 6:
		return move(n, near(r, 0, v))
	case 7:
		return undo(n)
	case 8:
		return redo(n)
	case 9:
		id := randomID(r, u)
		return on(n, id[0], id[1])
	default:
		id := randomID(r, u)
		return off(n, id[0], id[1])
	}
}

// randomPacket: the number of one that is in flight, most often.
func randomPacket(r *rand.Rand, p *plain) int {
	if len(p.net) == 0 || r.Intn(20) == 0 {
		return near(r, 0, p.next)
	}
	return p.net[r.Intn(len(p.net))].Number
}

// randomNet: a step of the network.
func randomNet(r *rand.Rand, p *plain) api.Step {
	k := randomPacket(r, p)
	switch r.Intn(10) {
	case 0:
		return drop(k)
	case 1:
		return double(k)
	case 2:
		size := 20
		if i := slices.IndexFunc(p.net, func(f api.Flight) bool { return f.Number == k }); i >= 0 {
			size = len(p.net[i].Packet.Bytes)
		}
		return spoil(k, near(r, 0, size-1), near(r, 1, 300))
	default:
		return deliver(k)
	}
}

// randomJunk: bytes that are no frame, and some that are one.
func randomJunk(r *rand.Rand, p *plain) api.Step {
	b := make([]byte, r.Intn(30))
	for i := range b {
		b[i] = byte(r.Intn(256))
	}
	if r.Intn(3) == 0 {
		b, _ = frame.Wrap(b)
	}
	if len(p.net) > 0 && r.Intn(3) == 0 {
		b = p.net[r.Intn(len(p.net))].Packet.Bytes
	}
	if len(b) > 0 && r.Intn(2) == 0 {
		b = slices.Clone(b)
		b[r.Intn(len(b))] ^= 1 << r.Intn(8)
	}
	return junk(randomNode(r, p), string(b))
}

// weather: how often what happens in a script, of all kinds of steps together.
type weather struct {
	calls, ticks, net, trouble, disk, others int
}

var weathers = []weather{
	{16, 16, 20, 2, 4, 4},
	{8, 12, 40, 0, 0, 1}, // much is told
	{20, 4, 4, 1, 0, 1},  // much is pending
	{6, 10, 20, 0, 8, 2}, // the disk gives up again and again
}

// randomStep: anything that may happen.
func randomStep(r *rand.Rand, p *plain, w weather) api.Step {
	if !p.runs && r.Intn(8) == 0 {
		return litter(r, boot(near(r, 0, 2), near(r, 0, 60)))
	}
	if len(p.net) == 0 && r.Intn(10) > 0 {
		w.net = 0
	}
	k := r.Intn(w.calls + w.ticks + w.net + w.trouble + w.disk + w.others)
	for i, part := range []int{w.calls, w.ticks, w.net, w.trouble, w.disk, w.others} {
		if k < part {
			return litter(r, stepOf(r, p, i))
		}
		k -= part
	}
	panic("no step")
}

// stepOf: one of that part of a weather.
func stepOf(r *rand.Rand, p *plain, part int) api.Step {
	switch part {
	case 0:
		return randomCall(r, p)
	case 1:
		return tick(randomNode(r, p))
	case 2:
		return randomNet(r, p)
	case 3:
		return randomJunk(r, p)
	case 4:
		if r.Intn(2) == 0 {
			return boot(near(r, 0, 2), near(r, 0, 60))
		}
		return arm(near(r, 0, 4), near(r, 0, 80))
	}
	switch r.Intn(12) {
	case 0:
		return settle()
	case 1:
		return api.Step{Kind: api.StepKind(near(r, 0, 40)), Node: randomNode(r, p)}
	case 2, 3, 4:
		return view(randomNode(r, p))
	}
	return join(near(r, 1, p.lim.Clients))
}

// litter: the fields that the kind of step doesn't name are not looked at.
func litter(r *rand.Rand, s api.Step) api.Step {
	if r.Intn(4) > 0 {
		return s
	}
	wild := func() int { return near(r, -3, 3) }
	switch s.Kind {
	case api.StepDeliver, api.StepDrop, api.StepCopy, api.StepArm, api.StepBoot, api.StepSettle, api.StepSpoil:
		s.Node, s.Text, s.ID[1] = wild(), "litter", wild()
	case api.StepJoin, api.StepTick, api.StepView, api.StepUndo, api.StepRedo:
		s.A, s.B, s.Text, s.ID = wild(), wild(), "litter", api.ID{wild(), wild()}
	case api.StepMove, api.StepInsert:
		s.B, s.ID = wild(), api.ID{wild(), wild()}
	case api.StepUndoOp, api.StepRedoOp:
		s.A, s.B, s.Text = wild(), wild(), "litter"
	}
	return s
}

// randomPair: a room of any size in which most have joined.
func randomPair(t *testing.T, r *rand.Rand) *pair {
	t.Helper()
	x := newPair(t, api.Limits{Clients: 1 + r.Intn(4), Cells: 5 + r.Intn(60), Ops: 3 + r.Intn(30)})
	if r.Intn(4) > 0 {
		x.all(joins(x.p.lim)...)
	}
	return x
}

// P17.1, P17.2, P17.4: long scripts of anything, beside a plain model of the world; the fair tail at the end.
func TestP17_1Scripts(t *testing.T) {
	met := map[[2]int]int{}
	longest, tail := 0, 0
	for seed := range int64(400) {
		r := rand.New(rand.NewSource(17000 + seed))
		x := randomPair(t, r)
		w := weathers[r.Intn(len(weathers))]
		for range 200 {
			s := randomStep(r, x.p, w)
			met[[2]int{int(s.Kind), int(x.do(s).Code)}]++
		}
		bound := x.w.Bound()
		a := x.do(settle())
		if a.Code != api.OK || a.N > bound {
			t.Fatalf("P17.4: %s: %+v, Bound %d", x.script(), a, bound)
		}
		x.is(settle(), ok)
		longest, tail = max(longest, x.p.hub.durable()), max(tail, a.N)
	}
	if longest < 60 || tail < 30 {
		t.Errorf("the longest journal has %d commands, the longest tail %d rounds", longest, tail)
	}
	for _, c := range seldom {
		if n := met[[2]int{int(c.kind), int(c.e)}]; n < 5 {
			t.Errorf("%s with %d was met only %d times", words[c.kind], int(c.e), n)
		}
	}
}

// seldom: what the scripts must have met.
var seldom = []struct {
	kind api.StepKind
	e    api.Errno
}{
	{api.StepJoin, api.OK}, {api.StepJoin, api.ErrNode}, {api.StepJoin, api.ErrJoined},
	{api.StepInsert, api.OK}, {api.StepInsert, api.ErrNode}, {api.StepInsert, api.ErrNotJoined}, {api.StepInsert, api.ErrPlace}, {api.StepInsert, api.ErrUtf8},
	{api.StepInsert, api.ErrRune}, {api.StepInsert, api.ErrEmpty}, {api.StepInsert, api.ErrOps}, {api.StepInsert, api.ErrCells},
	{api.StepDelete, api.OK}, {api.StepDelete, api.ErrPlace}, {api.StepDelete, api.ErrEmpty}, {api.StepDelete, api.ErrOps},
	{api.StepMove, api.OK}, {api.StepMove, api.ErrPlace},
	{api.StepUndo, api.OK}, {api.StepUndo, api.ErrStack}, {api.StepUndo, api.ErrOps},
	{api.StepRedo, api.OK}, {api.StepRedo, api.ErrStack}, {api.StepRedo, api.ErrOps},
	{api.StepUndoOp, api.OK}, {api.StepUndoOp, api.ErrUnknown}, {api.StepUndoOp, api.ErrTurned}, {api.StepUndoOp, api.ErrTarget}, {api.StepUndoOp, api.ErrOps},
	{api.StepRedoOp, api.OK}, {api.StepRedoOp, api.ErrUnknown}, {api.StepRedoOp, api.ErrTurned}, {api.StepRedoOp, api.ErrTarget}, {api.StepRedoOp, api.ErrOps},
	{api.StepTick, api.OK}, {api.StepTick, api.ErrNode}, {api.StepTick, api.ErrNotJoined}, {api.StepTick, api.ErrStopped},
	{api.StepDeliver, api.OK}, {api.StepDeliver, api.ErrPacket}, {api.StepDeliver, api.ErrStopped}, {api.StepDeliver, api.ErrMark}, {api.StepDeliver, api.ErrSum},
	{api.StepDeliver, api.ErrOld}, {api.StepDeliver, api.ErrDouble}, {api.StepDeliver, api.ErrStale},
	{api.StepDrop, api.OK}, {api.StepDrop, api.ErrPacket}, {api.StepCopy, api.OK}, {api.StepCopy, api.ErrPacket},
	{api.StepSpoil, api.OK}, {api.StepSpoil, api.ErrPacket}, {api.StepSpoil, api.ErrPlace}, {api.StepSpoil, api.ErrSpoilt},
	{api.StepJunk, api.ErrForged}, {api.StepJunk, api.ErrStopped}, {api.StepJunk, api.ErrShort}, {api.StepJunk, api.ErrMark}, {api.StepJunk, api.ErrSum},
	{api.StepArm, api.OK}, {api.StepArm, api.ErrPlace}, {api.StepArm, api.ErrStopped},
	{api.StepBoot, api.OK}, {api.StepBoot, api.ErrUp}, {api.StepBoot, api.ErrPlace}, {api.StepBoot, api.ErrStopped},
	{api.StepView, api.OK}, {api.StepView, api.ErrNode}, {api.StepView, api.ErrNotJoined}, {api.StepSettle, api.OK}, {api.StepKind(0), api.ErrStep},
}

// chosen: steps that are picked by what is there when they come.
func chosen(p *plain) []api.Step {
	first, last := p.next, p.next
	if n := len(p.net); n > 0 {
		first, last = p.net[0].Number, p.net[n-1].Number
	}
	disk := arm(1, 999)
	if !p.runs {
		disk = boot(0, 0)
	}
	return []api.Step{ins(1, 0, "p"), del(2, 0, 1), off(2, 1, 1), undo(1), tick(0), tick(1), tick(2), deliver(first), deliver(last), drop(first), disk}
}

// P17.1, P17.2: all scripts of four out of eleven steps, in a room in which something is under way everywhere; then the fair tail.
func TestP17_1ShortScripts(t *testing.T) {
	const long = 4
	kinds := len(chosen(&plain{runs: true}))
	all := 1
	for range long {
		all *= kinds
	}
	for number := range all {
		x := pairAt(t)
		for _, s := range []api.Step{ins(1, 0, "ab"), ins(2, 0, "x"), tick(1), tick(2), deliver(0), deliver(2), tick(0), ins(2, 1, "y")} {
			x.try(s)
		}
		for n, k := 0, number; n < long; n, k = n+1, k/kinds {
			x.do(chosen(x.p)[k%kinds])
		}
		if a := x.do(settle()); a.Code != api.OK {
			t.Fatalf("P17.4: %s: %+v", x.script(), a)
		}
	}
}
