package client_test

import (
	"slices"
	"strings"
	"testing"

	"redraft/api"
	"redraft/client"
	"redraft/desk"
	"redraft/msg"
	"redraft/op"
)

// greatest: the limits of the greatest room.
var greatest = api.Limits{Clients: 8, Cells: 4096, Ops: 1024}

// ofAll: what client c makes as its command n in a room that is filled to its limits: 16 inserts of 256 runes, some Hides of many ranges, Status commands.
func ofAll(c, n, cells int) api.Op {
	o := api.Op{Head: api.Head{ID: api.ID{c, n}, Kind: api.Status}, Target: api.ID{c, 1 + n%16}, On: n%3 == 0}
	switch {
	case n <= 16:
		o = api.Op{Head: api.Head{ID: o.ID, Kind: api.Ins}, At: (n * 7919) % (cells + 1), Text: strings.Repeat(string(rune('a'+c)), 256)}
	case n <= 18:
		o = api.Op{Head: api.Head{ID: o.ID, Kind: api.Hide}}
		for at := 1; at < cells; at += 2 {
			o.Ranges = append(o.Ranges, api.Range{Lo: at, Hi: at + 1})
		}
	}
	return o
}

// ownOfAll: what the user does as its command n.
func ownOfAll(t *testing.T, c caller, n int) {
	t.Helper()
	var err error
	switch {
	case n <= 16:
		_, err = c.Insert((n*104729)%(c.Shown()+1), strings.Repeat("u", 256))
	case n == 17:
		_, err = c.Delete(0, c.Shown()) // every second cell of all
	case n == 18:
		_, err = c.Undo()
	case n == 19:
		_, err = c.Redo()
	default:
		_, err = c.Turn(api.ID{1, 1}, n%2 == 1)
	}
	must(t, err)
}

// submitted: a tick must send the first pending command, as it stands behind the received ones.
func submitted(t *testing.T, c *client.Client) api.Op {
	t.Helper()
	want, err := c.Ops(c.Received(), c.Received()+1)
	must(t, err)
	ps := c.Tick()
	if len(ps) == 0 {
		t.Fatal("P15.11: nothing is sent")
	}
	m, e := msg.Unseal(ps[0].Bytes)
	if e != api.OK || m.Code != api.Submit || m.Rev != c.Received() || !op.Equal(m.Op, want[0]) {
		t.Fatalf("P15.3: sends %v of %d, R is %d, %v", m.Code, m.Rev, c.Received(), e)
	}
	return m.Op
}

// The greatest room, filled: 8192 revisions, 32768 cells, the longest Hide that can be made. Nothing that is sent is too great for its frame.
func TestGreatest(t *testing.T) {
	c := joined(t, 1, greatest)
	d, err := desk.New(1, greatest)
	must(t, err)
	rev, ranges := 0, 0
	for n := 1; n <= 1024; n++ {
		for other := 2; other <= 8; other++ {
			rev++
			o := ofAll(other, n, c.Total())
			must(t, c.Handle(castTo(1, rev, o)))
			must(t, d.Take(o))
		}
		ownOfAll(t, c, n)
		ownOfAll(t, d, n)
		must(t, d.Confirm(api.ID{1, n}))
		o := submitted(t, c)
		ranges = max(ranges, len(o.Ranges))
		rev++
		if n%2 == 0 {
			must(t, c.Handle(ack(rev, n)))
		} else {
			must(t, c.Handle(castTo(1, rev, o)))
		}
	}
	if c.Received() != 8192 || c.Len() != 8192 || c.Total() != 32768 || ranges != 16384 {
		t.Fatalf("R %d, %d cells, %d ranges", c.Received(), c.Total(), ranges)
	}
	mustFail(t, c.Handle(ack(8192, 1024)), "Handle", 8192, api.ErrOld)
	mustFail(t, c.Handle(raw(3, 1, 0x81, 0x40, 1)), "Handle", 0, api.ErrField) // rev 8193
	_, err = c.Insert(0, "x")
	mustFail(t, err, "Insert", 0, api.ErrOps)
	for range 4 {
		if ps := c.Tick(); len(ps) > 0 {
			t.Fatalf("P15.3: sends %s", says(ps[0].Bytes))
		}
	}
	if ps := c.Tick(); len(ps) != 1 || says(ps[0].Bytes) != "H8192" {
		t.Fatalf("P15.3: sends %v", ps)
	}
	if d.Received() != 8192 || c.Gap() != d.Gap() || c.Text() != d.Text() || !slices.Equal(c.Runs(), d.Runs()) {
		t.Fatal("P15.7: a desk to which the same has come is another one")
	}
}

// Everything that a user can make is pending at once, and what comes goes in ahead of it; then all of it is told, 64 revisions at a time, the last ones first.
func TestAllPending(t *testing.T) {
	c := joined(t, 1, greatest)
	for n := 1; n <= 1024; n++ {
		text := "pq"
		if n > 1000 {
			text = strings.Repeat("w", 80)
		}
		_, err := c.Insert((n*7919)%(c.Shown()+1), text)
		must(t, err)
	}
	_, err := c.Undo()
	mustFail(t, err, "Undo", 0, api.ErrOps)
	first := submitted(t, c)
	for rev := api.Width; rev >= 1; rev-- {
		must(t, c.Handle(castTo(1, rev, api.Op{Head: api.Head{ID: api.ID{2, rev}, Kind: api.Ins}, At: rev - 1, Text: "x"})))
	}
	if c.Received() != api.Width || len(c.Pending()) != 1024 {
		t.Fatalf("R %d, %d pending", c.Received(), len(c.Pending()))
	}
	for range api.Resend {
		c.Tick()
	}
	// All that came stands at one place, behind which the first own insert stands now.
	if o := submitted(t, c); o.At != first.At+api.Width {
		t.Fatalf("P15.3: sent at %d, then at %d", first.At, o.At)
	}
	text := c.Text()
	for lo := 1; lo <= 1024; lo += api.Width {
		for n := lo + api.Width - 1; n >= lo; n-- {
			must(t, c.Handle(ack(api.Width+n, n)))
		}
		if len(c.Held()) > 0 || c.Received() != api.Width+lo+api.Width-1 {
			t.Fatalf("P15.5: R %d, held %v", c.Received(), c.Held())
		}
	}
	if sent, _ := c.Waits(); len(c.Pending()) != 0 || c.Text() != text || sent != -1 {
		t.Fatalf("P15.5: %d are pending, sent %d", len(c.Pending()), sent)
	}
}
