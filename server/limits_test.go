package server_test

import (
	"slices"
	"strings"
	"testing"

	"redraft/api"
	"redraft/msg"
	"redraft/server"
)

// greatest: the limits of the greatest room.
var greatest = api.Limits{Clients: 8, Cells: 4096, Ops: 1024}

// ofAll: what client c makes as its command n in a room that is filled to its limits: 16 inserts of 256 runes, some Hides of many ranges, Status commands.
func ofAll(c, n, cells int) api.Op {
	o := api.Op{Head: api.Head{ID: api.ID{c, n}, Kind: api.Status}, Target: api.ID{c, 1 + n%16}, On: n%3 == 0}
	switch {
	case n <= 16:
		o = api.Op{Head: api.Head{ID: o.ID, Kind: api.Ins}, At: (n * 7919) % (cells + 1), Text: strings.Repeat(string(rune('a'+c)), 256)}
	case n <= 20:
		o = api.Op{Head: api.Head{ID: o.ID, Kind: api.Hide}}
		for at := n % 2; at < cells; at += 2 {
			o.Ranges = append(o.Ranges, api.Range{Lo: at, Hi: at + 1})
		}
	}
	return o
}

// The greatest room, filled: 8192 commands, 32768 cells. What comes then is refused; all of it is told, and booted again.
func TestP14_4Greatest(t *testing.T) {
	d := made(t, wide)
	s := boot(t, d, greatest)
	for n := 1; n <= 1024; n++ {
		base, cells := s.Durable(), s.Total()
		for c := 1; c <= 8; c++ {
			must(t, s.Handle(sealed(api.Msg{Code: api.Submit, Client: c, Rev: base, Op: ofAll(c, n, cells)})))
		}
		_, err := s.Tick()
		must(t, err)
		if n == 16 {
			mustFail(t, s.Handle(sub(3, base+8, `3.17 ins 0 "x"`)), "Handle", 0, api.ErrCells)
		}
	}
	if s.Revision() != 8192 || s.Durable() != 8192 || s.Total() != 32768 {
		t.Fatalf("P14.4: Revision %d, Durable %d, Total %d", s.Revision(), s.Durable(), s.Total())
	}
	mustFail(t, s.Handle(raw(2, 1, 0x80, 0x40, 4, 1, 0x81, 8, 2, 1, 0)), "Handle", 0, api.ErrID) // number 1025
	mustFail(t, s.Handle(raw(1, 1, 0x81, 0x40)), "Handle", 0, api.ErrField)                      // rev 8193
	must(t, s.Handle(hello(1, 8192)))
	must(t, s.Handle(hello(8, 0)))
	must(t, s.Handle(sub(5, 8192, `5.1024 off 1.1`)))
	ps, err := s.Tick()
	must(t, err)
	if len(ps) != 8193 {
		t.Fatalf("P14.5: %d packets", len(ps))
	}
	log, err := s.Log(0, 8192)
	must(t, err)
	for i, p := range ps[:8192] {
		m, e := msg.Unseal(p.Bytes)
		if e != api.OK || p.To != 8 || m.Rev != i+1 || line(m.Op) != line(log[i]) {
			t.Fatalf("P14.11: packet %d: %v", i, e)
		}
	}
	if m, e := msg.Unseal(ps[8192].Bytes); e != api.OK || m.Code != api.Ack || m.Client != 5 || m.Seq != 1024 || m.Rev != 8192-3 {
		t.Fatalf("P14.5: the last packet is %v, %v", m, e)
	}
	again := boot(t, d, greatest)
	if again.Text() != s.Text() || !slices.Equal(logOf(t, again), lines(log)) || !slices.Equal(again.Runs(), s.Runs()) {
		t.Fatal("P14.10: booted again it is another one")
	}
	for c := 1; c <= 8; c++ {
		if again.Last(c) != 1024 {
			t.Fatalf("P14.6: Last(%d) = %d", c, again.Last(c))
		}
	}
	_, err = server.Boot(d, api.Limits{Clients: 8, Cells: 4096, Ops: 1023})
	mustFail(t, err, "Boot", 8184, api.ErrOps)
	_, err = server.Boot(d, api.Limits{Clients: 8, Cells: 4095, Ops: 1024})
	mustFail(t, err, "Boot", 120, api.ErrCells)
	_, err = server.Boot(d, api.Limits{Clients: 7, Cells: 4096, Ops: 1024})
	mustFail(t, err, "Boot", 7, api.ErrClient)
}
