package client_test

import (
	"bytes"
	"fmt"
	"testing"

	"redraft/api"
	"redraft/msg"
)

// begun: three commands are received, the second of them its own; two are pending, the first of them was sent; revision 6 is held.
func begun(t *testing.T) *pair {
	t.Helper()
	x := pairAt(t, insert(0, "ab"), tick(), handle(cast(1, `2.1 ins 0 "xy"`)), handle(ack(2, 1)), handle(cast(3, `3.1 hide 0-1`)),
		insert(1, "c"), remove(0, 1), tick(), tick(), handle(cast(6, `2.2 ins 0 "z"`)))
	x.shows("cab", 3, `1.2 ins 2 "c"`, `1.3 hide 1-2`)
	x.holds(6)
	x.waits(1, 2)
	return x
}

// frames: right ones that begun would take or hold.
func frames() [][]byte {
	return [][]byte{ack(4, 2), ack(5, 2), cast(4, `1.2 ins 2 "c"`), cast(4, `2.2 ins 0 "\u{e9}"`), cast(5, `2.2 hide 0-1,2-3`), cast(4, `3.2 off 2.1`), cast(67, `3.2 on 2.1`)}
}

// Bytes that are no frame: the error is msg.Unseal's, At 0, and nothing changes.
func TestP15_4NoFrame(t *testing.T) {
	x := begun(t)
	for _, whole := range frames() {
		var list [][]byte
		for n := range whole {
			list = append(list, whole[:n])
		}
		for at := range whole {
			for bit := range 8 {
				b := bytes.Clone(whole)
				b[at] ^= 1 << bit
				list = append(list, b)
			}
		}
		list = append(list, append(bytes.Clone(whole), 0), append(bytes.Clone(whole), whole...), nil, []byte{}, []byte("junk"))
		for _, b := range list {
			_, e := msg.Unseal(b)
			if e == api.OK {
				t.Fatalf("%x is a frame", b)
			}
			if got := x.try(handle(b)).trouble; got != trouble("Handle", 0, e) {
				t.Fatalf("P15.4: %x: %q", b, got)
			}
		}
		x.see()
	}
	x.is(nil, 0, api.ErrShort)
	x.is([]byte{1}, 0, api.ErrMark)
	x.is(append(ack(4, 2), 0), 0, api.ErrTail)
	b := ack(4, 2)
	b[len(b)-1] ^= 1
	x.is(b, 0, api.ErrSum)
}

// Right frames that hold no message: msg's errors.
func TestP15_4NoMessage(t *testing.T) {
	x := begun(t)
	for _, c := range []struct {
		payload []byte
		e       api.Errno
	}{
		{nil, api.ErrCut},
		{[]byte{0, 1, 4, 2}, api.ErrCode},
		{[]byte{5, 1, 4, 2}, api.ErrCode},
		{[]byte{3}, api.ErrCut},
		{[]byte{3, 0, 4, 2}, api.ErrField},
		{[]byte{3, 9, 4, 2}, api.ErrField},
		{[]byte{3, 1, 0, 2}, api.ErrField},                         // rev 0
		{[]byte{3, 1, 0x81, 0x40, 2}, api.ErrField},                // rev 8193
		{[]byte{3, 1, 4, 0}, api.ErrField},                         // number 0
		{[]byte{3, 1, 4, 0x81, 8}, api.ErrField},                   // number 1025
		{[]byte{3, 1, 4, 2, 0}, api.ErrRest},                       //
		{[]byte{3, 1, 0x84, 0, 2}, api.ErrNumber},                  // 4 in two bytes
		{[]byte{4, 1, 0, 1, 2, 2, 0, 1, 'x'}, api.ErrField},        // rev 0
		{[]byte{4, 1, 4, 3, 2, 2, 1, 0, 1}, api.ErrKind},           // a Show
		{[]byte{4, 1, 4, 1, 0, 2, 0, 1, 'x'}, api.ErrID},           // client 0
		{[]byte{4, 1, 4, 1, 9, 2, 0, 1, 'x'}, api.ErrID},           // client 9
		{[]byte{4, 1, 4, 1, 2, 0, 0, 1, 'x'}, api.ErrID},           // number 0
		{[]byte{4, 1, 4, 4, 2, 2, 2, 2, 0}, api.ErrTarget},         // a Status on itself
		{[]byte{4, 1, 4, 1, 2, 2, 0, 0}, api.ErrEmpty},             //
		{[]byte{4, 1, 4, 1, 2, 2, 0, 1, 0xff}, api.ErrUtf8},        //
		{[]byte{4, 1, 4, 1, 2, 2, 0, 1, 'x', 'y'}, api.ErrRest},    //
		{[]byte{4, 1, 4, 2, 2, 2, 2, 0, 1, 0, 1}, api.ErrOrder},    // ranges that touch
		{[]byte{1, 1}, api.ErrCut},                                 // a Hello that is none: not ErrCode
		{[]byte{2, 1, 4, 1, 2, 2, 0, 1, 'x'}, api.ErrField},        // a Submit of another's command
		{[]byte{3, 2, 0, 2}, api.ErrField},                         // to another client: not ErrClient
		{[]byte{4, 3, 4, 1, 2, 2, 0, 1, 'x', 'y'}, api.ErrRest},    //
		{[]byte{4, 1, 1, 1, 2, 1, 0, 2, 'x', 'y', 0}, api.ErrRest}, // its turn is past: not ErrOld
	} {
		x.is(raw(c.payload...), 0, c.e)
	}
}

// Hello and Submit: ErrCode, ahead of the client and of the revision.
func TestP15_4Code(t *testing.T) {
	x := begun(t)
	for _, client := range []int{1, 2, 3, 4, 8} {
		for _, rev := range []int{0, 1, 3, 4, 5, 6, 67, 68, 8192} {
			x.is(hello(client, rev), 0, api.ErrCode)
			x.is(submit(rev, fmt.Sprintf(`%d.2 ins 0 "x"`, client)), 0, api.ErrCode)
		}
	}
}

// Messages for others: ErrClient, ahead of the revision; each client takes its own.
func TestP15_4Client(t *testing.T) {
	for user := 1; user <= 8; user++ {
		x := pairOf(t, user, api.Limits{Clients: 8, Cells: 9, Ops: 9})
		other := 1 + user%8
		x.ok(castTo(user, 1, api.Op{Head: api.Head{ID: api.ID{other, 1}, Kind: api.Ins}, Text: "o"}))
		x.all(insert(0, "u"), handle(ackTo(user, 3, 1)))
		for c := 1; c <= 8; c++ {
			if c == user {
				continue
			}
			for _, rev := range []int{1, 2, 3, 4, 65, 66, 8192} {
				x.is(ackTo(c, rev, 1), 0, api.ErrClient)
				x.is(castTo(c, rev, parse(`1.1 ins 0 "u"`)), 0, api.ErrClient)
			}
		}
		x.holds(3)
		x.ok(ackTo(user, 2, 1))
		x.shows("uo", 2)
	}
}

// unfit: a message of this revision, of which nothing can be said against but that it doesn't fit when its turn comes.
func unfit(rev int) []byte { return ack(rev, 100) }

// clientAt: client 1 with r commands of client 2 received.
func clientAt(t *testing.T, r int) *pair {
	t.Helper()
	x := pairAt(t)
	for n := 1; n <= r; n++ {
		x.ok(cast(n, fmt.Sprintf(`2.%d ins %d "x"`, n, n-1)))
	}
	return x
}

// Revisions at R, R + 1, R + api.Width and all others near them, to a client that holds nothing else.
func TestP15_4Revisions(t *testing.T) {
	for _, r := range []int{0, 1, 2, 5} {
		revs := []int{100, 8191, 8192}
		for rev := 1; rev <= r+api.Width+3; rev++ {
			revs = append(revs, rev)
		}
		for _, rev := range revs {
			for _, b := range [][]byte{unfit(rev), cast(rev, `3.1 ins 9 "x"`), cast(rev, `1.1 ins 0 "x"`)} {
				x := clientAt(t, r)
				switch {
				case rev <= r:
					x.is(b, rev, api.ErrOld)
				case rev == r+1:
					x.is(b, rev, api.ErrTurn)
				case rev <= r+64:
					x.ok(b)
					x.holds(rev)
					x.is(unfit(rev), rev, api.ErrDouble)
					x.is(b, rev, api.ErrDouble)
				default:
					x.is(b, rev, api.ErrFar)
				}
			}
		}
	}
}

// All 63 revisions behind the next one are held at once; what was too far a moment ago may come when R has gone up.
func TestP15_4Width(t *testing.T) {
	x := pairAt(t)
	var want []int
	for rev := api.Width; rev >= 2; rev-- {
		x.ok(cast(rev, fmt.Sprintf(`2.%d ins %d "x"`, rev, rev-1)))
		want = append([]int{rev}, want...)
	}
	x.holds(want...)
	if len(want) != 63 {
		t.Fatalf("P15.4: %d are held", len(want))
	}
	x.is(unfit(65), 65, api.ErrFar)
	x.is(unfit(64), 64, api.ErrDouble)
	x.ok(cast(1, `2.1 ins 0 "x"`))
	x.holds()
	x.ok(unfit(128))
	x.is(unfit(129), 129, api.ErrFar)
	x.ok(cast(65, `3.1 hide 0-64`))
	x.ok(unfit(129))
	x.holds(128, 129)
	x.is(unfit(65), 65, api.ErrOld)
	x.is(unfit(130), 130, api.ErrFar)
	x.shows("", 65)
}

// What is held stays when another of its revision comes, right or wrong: the first one has the turn.
func TestP15_4Double(t *testing.T) {
	x := pairAt(t, insert(0, "a"))
	x.ok(ack(2, 1))
	x.is(cast(2, `3.1 ins 0 "q"`), 2, api.ErrDouble)
	x.is(ack(2, 1), 2, api.ErrDouble)
	x.is(unfit(2), 2, api.ErrDouble)
	x.ok(cast(1, `2.1 ins 0 "x"`))
	x.shows("xa", 2)

	x = pairAt(t, insert(0, "a"))
	x.ok(unfit(2))
	x.is(ack(2, 1), 2, api.ErrDouble)
	x.ok(cast(1, `2.1 ins 0 "x"`)) // the one of revision 2 is thrown away now
	x.shows("xa", 1, `1.1 ins 1 "a"`)
	x.holds()
	x.ok(ack(2, 1))
	x.shows("xa", 2)
}

// A message that has had its turn is past, whatever it tells now.
func TestP15_4Old(t *testing.T) {
	x := begun(t)
	for rev := 1; rev <= 3; rev++ {
		for _, b := range [][]byte{ack(rev, 1), ack(rev, 2), unfit(rev), cast(rev, `2.1 ins 0 "xy"`), cast(rev, `2.2 ins 0 "n"`), cast(rev, `1.2 ins 2 "c"`)} {
			x.is(b, rev, api.ErrOld)
		}
	}
	x.holds(6)
}

// Two faults at once: the one that the chapter names first.
func TestP15_4FirstNamed(t *testing.T) {
	x := begun(t)
	for _, c := range []struct {
		b  []byte
		at int
		e  api.Errno
	}{
		{append(hello(2, 1), 0), 0, api.ErrTail},    // no frame, a code, another's
		{append(ackTo(2, 1, 1), 0), 0, api.ErrTail}, // no frame, another's, past
		{raw(5, 9, 0), 0, api.ErrCode},              // no message at all
		{raw(3, 1, 4, 2, 7), 0, api.ErrRest},        // no message, though the rest fits
		{hello(2, 1), 0, api.ErrCode},               // a code, another's, past
		{submit(68, `2.2 ins 0 "z"`), 0, api.ErrCode},
		{ackTo(2, 1, 1), 0, api.ErrClient},   // another's, past
		{ackTo(2, 6, 1), 0, api.ErrClient},   // another's, held
		{ackTo(2, 68, 1), 0, api.ErrClient},  // another's, too far
		{ackTo(2, 4, 100), 0, api.ErrClient}, // another's, doesn't fit
		{unfit(3), 3, api.ErrOld},
		{unfit(6), 6, api.ErrDouble},
		{unfit(68), 68, api.ErrFar},
		{unfit(4), 4, api.ErrTurn},
	} {
		x.is(c.b, c.at, c.e)
	}
}
