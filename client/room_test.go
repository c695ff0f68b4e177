package client_test

import (
	"math/rand"
	"slices"
	"testing"

	"redraft/api"
	"redraft/disk"
	"redraft/msg"
	"redraft/server"
)

// hall: a server and its clients, each beside the chapter's words, and a network that loses, doubles, spoils and reorders.
type hall struct {
	t   *testing.T
	r   *rand.Rand
	lim api.Limits
	d   *disk.Disk
	s   *server.Server
	xs  []*pair
	net []api.Packet
}

func newHall(t *testing.T, r *rand.Rand, clients int) *hall {
	t.Helper()
	h := &hall{t: t, r: r, lim: api.Limits{Clients: clients, Cells: 60, Ops: 40}}
	d, e := disk.New(1 << 20)
	if e != api.OK {
		t.Fatal(e)
	}
	h.d = d
	h.boot()
	for c := 1; c <= clients; c++ {
		h.xs = append(h.xs, pairOf(t, c, h.lim))
	}
	return h
}

func (h *hall) boot() {
	h.t.Helper()
	s, err := server.Boot(h.d, h.lim)
	must(h.t, err)
	h.s = s
}

// crash: the disk gives up, some of its loose bytes stay, and a new server comes.
func (h *hall) crash() {
	h.t.Helper()
	h.d.Crash(h.r.Intn(40))
	h.d.Up()
	h.boot()
}

// tick: of node n.
func (h *hall) tick(n int) {
	h.t.Helper()
	if n > 0 {
		x := h.xs[n-1]
		got := x.try(tick()).packets
		heldToP15_9(h.t, x.c, got)
		h.net = append(h.net, got...)
		return
	}
	ps, err := h.s.Tick()
	must(h.t, err)
	h.net = append(h.net, ps...)
}

// deliver: a packet comes to its node. What was not spoilt always fits when it has its turn.
func (h *hall) deliver(p api.Packet) {
	h.t.Helper()
	if p.To == 0 {
		h.s.Handle(p.Bytes)
		return
	}
	got := h.xs[p.To-1].try(handle(p.Bytes)).trouble
	if got != "" && codeOf(got) == api.ErrTurn {
		h.t.Fatalf("P15.5: client %d throws away %s", p.To, says(p.Bytes))
	}
}

// network: something happens to a packet.
func (h *hall) network() {
	h.t.Helper()
	if len(h.net) == 0 {
		return
	}
	i := h.r.Intn(len(h.net))
	p := h.net[i]
	switch h.r.Intn(10) {
	case 0:
		h.net = append(h.net, p)
		return
	case 1:
		p.Bytes = slices.Clone(p.Bytes)
		p.Bytes[h.r.Intn(len(p.Bytes))] ^= 1 << h.r.Intn(8)
		if _, e := msg.Unseal(p.Bytes); e == api.OK {
			h.t.Fatal("chapter 9: a turned bit is not told")
		}
		h.deliver(p)
	case 2: // lost
	default:
		h.deliver(p)
	}
	h.net = slices.Delete(slices.Clone(h.net), i, i+1)
}

// look: DOC.md's P2: each client's order is the first commands of the journal, then its pending ones, and its text and caret are that order's.
func (h *hall) look() {
	h.t.Helper()
	log, err := h.s.Log(0, h.s.Durable())
	must(h.t, err)
	for _, x := range h.xs {
		x.see()
		got, err := x.c.Ops(0, x.c.Received())
		must(h.t, err)
		if len(got) > len(log) || !slices.Equal(lines(got), lines(log[:len(got)])) {
			h.t.Fatalf("P15.7, P2: client %d has received %q, the journal is %q", x.p.user, lines(got), lines(log))
		}
	}
}

// settled: chapter 17's word.
func (h *hall) settled() bool {
	for _, x := range h.xs {
		if len(x.c.Pending()) > 0 || x.c.Received() != h.s.Durable() {
			return false
		}
	}
	return h.s.Revision() == h.s.Durable()
}

// round: chapter 17's: all that is in flight is delivered, then all nodes tick.
func (h *hall) round() {
	h.t.Helper()
	flying := h.net
	h.net = nil
	for _, p := range flying {
		h.deliver(p)
	}
	for n := range len(h.xs) + 1 {
		h.tick(n)
	}
}

// settle: DOC.md's P8: how many rounds it takes; and P6: one text.
func (h *hall) settle() {
	h.t.Helper()
	bound := 0
	for _, x := range h.xs {
		bound = max(bound, 9+2*len(x.c.Pending()))
	}
	rounds := 0
	for ; !h.settled(); rounds++ {
		if rounds == bound {
			h.t.Fatalf("P8: not settled behind %d rounds", rounds)
		}
		h.round()
	}
	h.look()
	for _, x := range h.xs {
		if x.c.Text() != h.s.Text() || !slices.Equal(x.c.Runs(), h.s.Runs()) || len(x.c.Held()) > 0 {
			h.t.Fatalf("P6: client %d shows %q, the server %q", x.p.user, x.c.Text(), h.s.Text())
		}
	}
}

// P15.7, and DOC.md's P2, P6, P7 and P8 from the clients' side: rooms in which everything happens, and then nothing any more.
func TestRooms(t *testing.T) {
	longest := 0
	for seed := range int64(80) {
		r := rand.New(rand.NewSource(15000 + seed))
		h := newHall(t, r, 1+r.Intn(4))
		for range 150 {
			switch k := r.Intn(20); {
			case k < 4:
				x := h.xs[r.Intn(len(h.xs))]
				x.try(randomCall(r, x.p))
			case k < 9:
				h.tick(r.Intn(len(h.xs) + 1))
			case k == 9 && r.Intn(8) == 0:
				h.crash()
			default:
				h.network()
			}
			if r.Intn(6) == 0 {
				h.look()
			}
		}
		if r.Intn(2) == 0 {
			h.crash()
		}
		h.settle()
		longest = max(longest, h.s.Durable())
	}
	if longest < 15 {
		t.Errorf("the longest journal has only %d commands", longest)
	}
}

// DOC.md's P8: all has been lost that was ever sent, and each client has much pending: it takes two rounds for each of its commands, and few more.
func TestRoomAllLost(t *testing.T) {
	h := newHall(t, rand.New(rand.NewSource(3)), 3)
	for range 20 {
		for _, x := range h.xs {
			x.try(insert(h.r.Intn(len(x.p.visible())+1), "k"))
		}
		for n := range 4 {
			h.tick(n)
		}
		h.net = nil
	}
	h.settle()
	if h.s.Durable() != 60 {
		t.Errorf("P8: %d commands", h.s.Durable())
	}
}

// A client that joins late asks for all that there is, more than it can hold at once.
func TestRoomLate(t *testing.T) {
	h := newHall(t, rand.New(rand.NewSource(4)), 5)
	late := h.xs[4]
	h.xs = h.xs[:4]
	for range 35 {
		for _, x := range h.xs {
			x.try(insert(h.r.Intn(len(x.p.visible())+1), "k"))
		}
		h.round()
	}
	h.settle()
	if h.s.Durable() != 140 {
		t.Fatalf("P8: %d commands", h.s.Durable())
	}
	h.xs = append(h.xs, late)
	late.try(insert(0, "late"))
	for rounds := 0; !h.settled(); rounds++ {
		if rounds > 30 {
			t.Fatalf("P15.11: it has received only %d", late.p.received)
		}
		slices.Reverse(h.net) // the last ones first: most are too far ahead
		h.round()
	}
	h.settle()
}
