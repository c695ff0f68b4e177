package world_test

import (
	"slices"
	"strings"
	"testing"

	"redraft/api"
	"redraft/frame"
)

// people: the kinds of steps whose node must be a client; machines: those whose node may be the server too.
var people = []api.StepKind{api.StepJoin, api.StepInsert, api.StepDelete, api.StepMove, api.StepUndo, api.StepRedo, api.StepUndoOp, api.StepRedoOp}
var machines = []api.StepKind{api.StepTick, api.StepJunk, api.StepView}

// wrongs: arguments with which a step of a user is refused by the desk too.
func wrongs(kind api.StepKind, n int) []api.Step {
	return []api.Step{
		{Kind: kind, Node: n},
		{Kind: kind, Node: n, A: -1, B: -1, Text: "\xff", ID: api.ID{9, 9}},
		{Kind: kind, Node: n, A: far[0], B: far[5], Text: strings.Repeat("x", 300), ID: api.ID{far[5], far[0]}},
		{Kind: kind, Node: n, Text: string(frameOf("k"))},
	}
}

func frameOf(payload string) []byte {
	b, e := frame.Wrap([]byte(payload))
	if e != api.OK {
		panic(e)
	}
	return b
}

// states: rooms for two: a new one, one in which client 1 has joined, one in which much is under way, one whose server is down.
func states(t *testing.T) []*pair {
	t.Helper()
	fresh := newPair(t, room)
	half := newPair(t, room)
	half.all(join(1), ins(1, 0, "ab"), tick(1))
	busy := first(t)
	busy.all(del(2, 0, 1), ins(1, 1, "k"), double(3), tick(2))
	return []*pair{fresh, half, busy, downPair(t)}
}

// downPair: as busy, but that the server is down: its disk has met a crash in an Append.
func downPair(t *testing.T) *pair {
	t.Helper()
	x := first(t)
	x.all(del(2, 0, 1), ins(1, 1, "k"), double(3), tick(2), arm(1, 7))
	x.is(deliver(6), comes(api.ErrStopped, 0, 2))
	return x
}

// P17.1: ErrNode and ErrNotJoined, ahead of all other errors of a step; they change nothing.
func TestP17_1Nodes(t *testing.T) {
	for _, x := range states(t) {
		none := append([]int{-1, 3, 4, 8, 9}, far...)
		for _, kind := range people {
			for _, n := range append(none, 0) {
				for _, s := range wrongs(kind, n) {
					x.is(s, fails(api.ErrNode))
				}
			}
		}
		for _, kind := range machines {
			for _, n := range none {
				for _, s := range wrongs(kind, n) {
					x.is(s, fails(api.ErrNode))
				}
			}
		}
		for n := 1; n <= 2; n++ {
			if x.w.Views()[n].Up {
				continue
			}
			for _, kind := range append(people[1:], machines...) {
				for _, s := range wrongs(kind, n) {
					x.is(s, fails(api.ErrNotJoined))
				}
			}
		}
		for _, n := range none {
			if ops, e := x.w.Ops(n); len(ops) > 0 || e != api.ErrNode {
				t.Fatalf("P17.1: Ops(%d) = %v, %d", n, ops, int(e))
			}
		}
	}
}

// P17.1: kinds that are none of a world's, whatever else the step holds.
func TestP17_1NoStep(t *testing.T) {
	for _, x := range states(t) {
		for _, kind := range append([]int{-1, 0, 19, 20, 21, 22, 23, 24, 25, 26, 27, 28, 29, 30, 31, 32, 100}, far...) {
			for _, n := range []int{-1, 0, 1, 2, 3} {
				for _, s := range wrongs(api.StepKind(kind), n) {
					x.is(s, fails(api.ErrStep))
				}
			}
		}
	}
}

// P17.1: joining, in any state; it changes nothing of others, and what a client shows when it begins is empty.
func TestP17_1Join(t *testing.T) {
	for _, x := range states(t) {
		for n := 1; n <= 2; n++ {
			want := ok
			if x.w.Views()[n].Up {
				want = fails(api.ErrJoined)
			}
			x.is(join(n), want)
			x.is(join(n), fails(api.ErrJoined))
		}
	}
	x := newPair(t, room)
	x.all(join(2), ins(2, 0, "abc"), settle())
	x.is(join(1), ok)
	if v := x.w.Views()[1]; v != (api.View{Node: 1, Up: true}) {
		t.Fatalf("P17.1: a client that has just joined shows %+v", v)
	}
	x.is(settle(), says(3, 0, ""))
	x.shows(1, "abc", 0)
	x.is(join(1), fails(api.ErrJoined))
}

// P17.1: a user's calls: number, caret, line; and the desk's errors, in their order.
func TestP17_1Commands(t *testing.T) {
	x := pairAt(t)
	long := strings.Repeat("é", 257)
	x.is(ins(1, 0, "héllo\n"), says(1, 6, `1.1 ins 0 "h\u{e9}llo\n"`))
	x.is(ins(1, 1, "\xff"), fails(api.ErrUtf8))
	x.is(ins(1, 1, "\x00"), fails(api.ErrRune))
	x.is(ins(1, 1, ""), fails(api.ErrEmpty))
	x.is(ins(1, 1, long), fails(api.ErrLong))
	x.is(ins(1, 1, long[2:]), fails(api.ErrCells)) // 256 runes, of which the room lets in 100
	for _, p := range append([]int{-1, 7}, far...) {
		for _, text := range []string{"a", "\xff", "", long} {
			x.is(ins(1, p, text), fails(api.ErrPlace))
		}
		x.is(move(1, p), fails(api.ErrPlace))
		x.is(del(1, p, 1), fails(api.ErrPlace))
		x.is(del(1, 0, p), fails(api.ErrPlace))
		x.is(del(1, p, p), fails(api.ErrPlace))
	}
	x.is(del(1, 0, 0), fails(api.ErrEmpty))
	x.is(del(1, 6, 0), fails(api.ErrEmpty))
	x.is(del(1, 6, 1), fails(api.ErrPlace))
	x.is(move(1, 6), says(0, 6, ""))
	x.is(move(1, 0), ok)
	x.is(move(1, 4), says(0, 4, ""))
	x.is(del(1, 1, 2), says(2, 1, "1.2 hide 1-3"))
	x.is(ins(1, 2, "-"), says(3, 3, `1.3 ins 4 "-"`))
	x.is(del(1, 0, 5), says(4, 0, "1.4 hide 0-1,3-7"))
	x.is(view(1), ok)
	x.is(view(2), ok) // the other one sees nothing yet
}

// P17.1: Undo and Redo by the user's own stacks; UndoOp and RedoOp of own and others' edits.
func TestP17_1UndoRedo(t *testing.T) {
	x := pairAt(t)
	for c := 1; c <= 2; c++ {
		x.is(undo(c), fails(api.ErrStack))
		x.is(redo(c), fails(api.ErrStack))
		x.is(off(c, 1, 1), fails(api.ErrUnknown))
		x.is(on(c, 0, 0), fails(api.ErrUnknown))
	}
	x.all(ins(1, 0, "abc"), settle(), del(2, 1, 1))
	x.is(settle(), says(3, 0, ""))
	x.is(undo(2), says(2, 2, "2.2 off 2.1"))
	x.is(undo(2), fails(api.ErrStack)) // the other's insert is not its own
	x.is(off(2, 1, 1), says(3, 0, "2.3 off 1.1"))
	x.is(off(2, 1, 1), fails(api.ErrTurned))
	x.is(on(2, 2, 2), fails(api.ErrTarget))
	x.is(on(2, 2, 9), fails(api.ErrUnknown))
	x.is(on(2, far[0], far[5]), fails(api.ErrUnknown))
	x.is(settle(), says(5, 0, ""))
	x.shows(1, "", 0)
	x.is(undo(1), fails(api.ErrStack)) // it finds it off
	x.is(on(1, 1, 1), says(2, 3, "1.2 on 1.1"))
	x.is(on(1, 1, 1), fails(api.ErrTurned))
	x.is(redo(2), says(4, 0, "2.4 on 2.1")) // in its own view all is still off
	x.is(settle(), says(3, 0, ""))
	x.shows(1, "ac", 2)
	x.shows(2, "ac", 1) // its caret stands where b is
	x.is(on(1, 2, 1), fails(api.ErrTurned))
	x.is(off(1, 2, 1), says(3, 2, "1.3 off 2.1"))
	x.is(undo(1), says(4, 0, "1.4 off 1.1"))
	x.is(redo(1), says(5, 3, "1.5 on 1.1"))
	x.is(redo(1), fails(api.ErrStack))
	x.is(settle(), says(7, 0, ""))
	x.shows(0, "abc", 0)
	x.shows(2, "abc", 1)
}

// P17.1: what View tells, of every node in every state; it is what Views says.
func TestP17_1View(t *testing.T) {
	for _, x := range states(t) {
		for n, v := range x.w.Views() {
			if n > 0 && !v.Up {
				x.is(view(n), fails(api.ErrNotJoined))
				continue
			}
			x.is(view(n), says(v.Caret, v.Known, v.Text))
		}
	}
	x := downPair(t)
	x.is(view(0), says(0, 1, "ab"))
	if v := x.w.Views()[0]; v != (api.View{Text: "ab", Known: 1}) {
		t.Fatalf("P17.1: a server that is down: %+v", v)
	}
}

// P17.1: while the server is down, all that is not the server's goes on.
func TestP17_1Down(t *testing.T) {
	x := downPair(t)
	x.is(tick(0), fails(api.ErrStopped))
	x.is(junk(0, "no frame"), fails(api.ErrStopped))
	x.is(junk(0, string(frameOf("one"))), fails(api.ErrStopped))
	for _, a := range append([]int{-1, 0, 1}, far...) {
		x.is(arm(a, 0), fails(api.ErrStopped))
		x.is(arm(1, a), fails(api.ErrStopped))
	}
	x.is(ins(2, 0, "z"), says(2, 1, `2.2 ins 1 "z"`))
	x.is(undo(1), says(3, 1, "1.3 off 1.2"))
	x.is(tick(1), says(0, 7, ""))
	x.is(deliver(3), comes(api.OK, 1, 0))
	x.is(tick(1), says(1, 8, ""))
	x.is(deliver(7), comes(api.ErrStopped, 0, 1))
	x.is(deliver(7), fails(api.ErrPacket))
	x.is(deliver(5), comes(api.ErrOld, 1, 0))
	x.is(junk(1, ""), fails(api.ErrShort))
	x.is(double(7), fails(api.ErrPacket))
	x.is(drop(7), fails(api.ErrPacket))
	x.is(spoil(7, 0, 1), fails(api.ErrPacket))
	x.is(view(0), says(0, 1, "ab"))
	x.is(join(1), fails(api.ErrJoined))
	if got := x.w.Order(); !slices.Equal(got, []api.ID{{1, 1}}) {
		t.Fatalf("P17.3: Order %v", got)
	}
	if ops, e := x.w.Ops(0); e != api.OK || !slices.Equal(lines(ops), []string{`1.1 ins 0 "ab"`}) {
		t.Fatalf("P17.1: Ops(0) = %q, %d", lines(ops), int(e))
	}
	if got := x.w.Bound(); got != 13 {
		t.Fatalf("P17.4: Bound %d", got)
	}
	for range 2 { // each of these stays as it is, asked again
		x.see()
	}
	x.is(boot(0, 0), says(1, 0, ""))
	x.is(boot(0, 0), fails(api.ErrUp))
	x.is(boot(-1, -1), fails(api.ErrUp))
	x.do(settle())
	x.shows(1, "zb", 0)
}

// P1: every kind of step at every node, with numbers at all bounds and far beside them, in every state; nothing panics, and all is as the table says.
func TestP1EveryStep(t *testing.T) {
	numbers := append([]int{-1, 0, 1, 2, 3, 7, 12}, far[0], far[5])
	for i := range states(t) {
		for kind := api.StepKind(-1); kind <= 33; kind++ {
			x := states(t)[i]
			for _, n := range append([]int{-1, 0, 1, 2, 3}, far[0], far[5]) {
				for _, a := range numbers {
					for k, b := range numbers {
						text := []string{"x", "", "\xff", string(frameOf("f"))}[k%4]
						x.try(api.Step{Kind: kind, Node: n, A: a, B: b, Text: text, ID: api.ID{b, a}})
					}
				}
				x.see()
			}
		}
	}
}
