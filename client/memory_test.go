package client_test

import (
	"bytes"
	"errors"
	"fmt"
	"slices"
	"testing"
	"unsafe"

	"redraft/api"
	"redraft/client"
)

// roomy: b with spare room behind it, which holds known bytes.
func roomy(b []byte) []byte {
	out := append(bytes.Clone(b), bytes.Repeat([]byte{0xa5}, 40)...)
	return out[:len(b)]
}

// overwrite: all of a list's memory, spare room too, and what an append writes.
func overwrite[T any](l []T, with T) {
	whole := l[:cap(l)]
	for i := range whole {
		whole[i] = with
	}
	_ = append(l, with, with)
}

// busyDay: messages of all fates and calls of all kinds; some are held for long.
func busyDay() []step {
	return []step{
		tick(), insert(0, "abc"), handle(cast(3, `2.2 hide 0-1,3-4`)), tick(), handle(cast(5, `3.1 ins 1 "\u{e9}\u{20ac}"`)), handle(ack(2, 1)),
		handle(cast(1, `2.1 ins 0 "wx"`)), remove(0, 1), insert(1, "k"), tick(), handle(cast(5, `3.1 ins 1 "other"`)), handle(cast(4, `1.2 hide 1-2`)), handle(unfit(6)), handle([]byte("junk")),
		handle(hello(1, 2)), tick(), tick(), handle(cast(8, `2.3 off 1.1`)), handle(cast(7, `2.4 hide 0-2,4-5`)), handle(ack(6, 3)), undo(), tick(), tick(), tick(), tick(), tick(), handle(ackTo(2, 9, 4)),
	}
}

// P15.1: what is handed in is neither changed nor kept: it is written over behind the call, also where the message is held.
func TestP15_1HandedIn(t *testing.T) {
	x := pairAt(t)
	c := joined(t, 1, room)
	for _, s := range busyDay() {
		want := x.do(s)
		if s.kind != "Handle" {
			ask(t, c, s)
		} else {
			in := roomy([]byte(s.text))
			err := c.Handle(in)
			whole := in[:len(in)+40]
			if string(in) != s.text || !bytes.Equal(whole[len(in):], bytes.Repeat([]byte{0xa5}, 40)) {
				t.Fatalf("P15.1: Handle has changed what it was handed: %x", whole)
			}
			overwrite(in, 0xee)
			if got := troubleOf(t, err); got != want.trouble {
				t.Fatalf("P15.1: %v: %q, want %q", s, got, want.trouble)
			}
		}
		if got, want := told(t, c), told(t, x.c); got != want {
			t.Fatalf("P15.1: what was handed in is kept: behind %v\n%s\nwant\n%s", s, got, want)
		}
	}
	if c.Received() != 8 {
		t.Fatalf("R is %d", c.Received())
	}
}

// spoilAll: everything that the client hands out is written over and appended to.
func spoilAll(t *testing.T, c *client.Client) {
	t.Helper()
	spoilOps := func(list []api.Op) {
		for _, o := range list {
			overwrite(o.Ranges, api.Range{Lo: -7, Hi: 77})
		}
		overwrite(list, api.Op{Text: "spoilt", At: -1})
	}
	overwrite(c.Held(), 99)
	spoilOps(c.Pending())
	undo, redo := c.Stacks()
	overwrite(undo, api.ID{9, 9})
	overwrite(redo, api.ID{9, 9})
	overwrite(c.Runs(), api.Run{Text: "spoilt", Hid: -1})
	for i := range c.Len() {
		entry, err := c.Entry(i)
		must(t, err)
		overwrite(entry.Ranges, api.Range{Lo: -7, Hi: 77})
		if list, err := c.Erase(entry.ID); err == nil {
			spoilOps(list)
		}
		list, err := c.Ops(i, i+1)
		must(t, err)
		spoilOps(list)
	}
}

// spoilFaults: an error and all that lies in it is written over.
func spoilFaults(err error) {
	var f *api.Fault
	if errors.As(err, &f) {
		*f = api.Fault{Call: "spoilt", At: 9, Err: errors.New("x")}
	}
}

// stretch: where a list lies in memory, spare room too.
type stretch struct{ lo, hi uintptr }

func stretchOf[T any](l []T) stretch {
	var one T
	lo := uintptr(unsafe.Pointer(unsafe.SliceData(l)))
	return stretch{lo, lo + uintptr(cap(l))*unsafe.Sizeof(one)}
}

// apart: no two of these lists have a byte of memory in common.
func apart(t *testing.T, what string, all []stretch) {
	t.Helper()
	for i, a := range all {
		for _, b := range all[:i] {
			if a.lo < b.hi && b.lo < a.hi && a.lo < a.hi && b.lo < b.hi {
				t.Fatalf("P15.1: %s: two lists share memory", what)
			}
		}
	}
}

// P15.1: what is answered is new memory: it is all written over behind each call, and nobody sees it.
func TestP15_1HandedOut(t *testing.T) {
	x := pairAt(t)
	c := joined(t, 1, room)
	for _, s := range busyDay() {
		want := x.do(s)
		got := ask(t, c, s)
		if !samePackets(got.packets, want.packets) {
			t.Fatalf("P15.1: %v sends %q, want %q", s, sent(t, 1, got.packets), sent(t, 1, want.packets))
		}
		for _, p := range got.packets {
			overwrite(p.Bytes, 0xee)
		}
		overwrite(got.packets, api.Packet{From: 7})
		spoilAll(t, c)
		if got, want := told(t, c), told(t, x.c); got != want {
			t.Fatalf("P15.1: behind %v what was handed out is seen:\n%s\nwant\n%s", s, got, want)
		}
	}
}

// P15.1: no two lists of a Tick, nor of two Ticks, share memory; nor those of two Helds.
func TestP15_1Apart(t *testing.T) {
	x := pairAt(t, handle(cast(1, `2.1 ins 0 "wxyz"`)), handle(cast(2, `2.2 hide 1-2`)), remove(0, 3), handle(ack(9, 1)), handle(ack(5, 2)), handle(ack(7, 2)))
	var packets, held []stretch
	var keep []any // what is let go of may come again
	for range 60 {
		ps := x.do(tick()).packets
		packets = append(packets, stretchOf(ps))
		for _, p := range ps {
			packets = append(packets, stretchOf(p.Bytes))
		}
		h := x.c.Held()
		held = append(held, stretchOf(h))
		keep = append(keep, ps, h)
	}
	apart(t, "Tick", packets)
	apart(t, "Held", held)
	if len(keep) != 120 || !slices.Equal(x.c.Held(), []int{5, 7, 9}) {
		t.Fatal(x.c.Held())
	}
}

// P15.1: faults that were answered are written over: the next ones are right.
func TestP15_1Faults(t *testing.T) {
	x := begun(t)
	for range 3 {
		for _, s := range []struct {
			b  []byte
			at int
			e  api.Errno
		}{
			{nil, 0, api.ErrShort}, {hello(1, 0), 0, api.ErrCode}, {ackTo(2, 1, 1), 0, api.ErrClient}, {ack(1, 1), 1, api.ErrOld}, {ack(6, 1), 6, api.ErrDouble}, {ack(68, 1), 68, api.ErrFar}, {unfit(4), 4, api.ErrTurn},
		} {
			err := x.c.Handle(s.b)
			mustFail(t, err, "Handle", s.at, s.e)
			spoilFaults(err)
		}
		for _, user := range []int{0, 4} {
			_, err := client.New(user, room)
			mustFail(t, err, "New", user, api.ErrUser)
			spoilFaults(err)
		}
		_, err := client.New(1, api.Limits{})
		mustFail(t, err, "New", 1, api.ErrLimits)
		spoilFaults(err)
	}
	x.see()
}

// Rule 13: no bytes and a list without any are one and the same.
func TestRule13(t *testing.T) {
	x := begun(t)
	was := told(t, x.c)
	for _, b := range [][]byte{nil, {}, make([]byte, 0, 20)} {
		mustFail(t, x.c.Handle(b), "Handle", 0, api.ErrShort)
	}
	if now := told(t, x.c); now != was {
		t.Fatal(fmt.Sprint("P15.1: a refused Handle has changed something: ", now))
	}
}
