package server_test

import (
	"fmt"
	"math/rand"
	"slices"
	"strings"
	"testing"

	"redraft/api"
)

// small: limits that are soon reached.
var small = api.Limits{Clients: 3, Cells: 12, Ops: 6}

// randomCommand: of a client, mostly right where there are so many cells.
func randomCommand(r *rand.Rand, id api.ID, cells int) api.Op {
	o := api.Op{Head: api.Head{ID: id, Kind: api.Ins}}
	switch r.Intn(6) {
	case 0, 1, 2:
		o.At, o.Text = r.Intn(cells+1), strings.Repeat(string(rune('a'+r.Intn(26))), 1+r.Intn(3))
		if r.Intn(12) == 0 {
			o.At += r.Intn(4)
		}
		if r.Intn(12) == 0 {
			o.Text = strings.Repeat("w", 4+r.Intn(10))
		}
	case 3, 4:
		o.Kind = api.Hide
		for lo := r.Intn(cells + 1); lo <= cells && len(o.Ranges) < 3; lo += 2 + r.Intn(3) {
			hi := lo + 1 + r.Intn(2)
			o.Ranges = append(o.Ranges, api.Range{Lo: lo, Hi: hi})
			lo = hi
		}
	default:
		o.Kind, o.On, o.Target = api.Status, r.Intn(2) == 0, api.ID{1 + r.Intn(3), 1 + r.Intn(4)}
		if o.Target == id {
			o.Target = api.ID{1 + id[0]%3, 1}
		}
	}
	return o
}

// randomFrame: a Hello or a Submit, mostly right.
func randomFrame(r *rand.Rand, p *plain) []byte {
	c := 1 + r.Intn(3)
	if r.Intn(30) == 0 {
		c = 4 + r.Intn(5)
	}
	last, revision, _ := p.by(c)
	base := r.Intn(len(p.order) + 2)
	if revision <= p.durable && r.Intn(8) > 0 {
		base = revision + r.Intn(p.durable-revision+1)
	}
	if r.Intn(5) == 0 {
		return hello(c, base)
	}
	number := last + 1
	switch r.Intn(12) {
	case 0, 1:
		number = max(1, last)
	case 2:
		number = max(1, last-1)
	case 3:
		number = last + 1 + r.Intn(3)
	}
	cells := len(p.row(min(base, len(p.order))))
	return sealed(api.Msg{Code: api.Submit, Client: c, Rev: base, Op: randomCommand(r, api.ID{c, number}, cells)})
}

// randomStep: any call, of any server; mostly the latest one.
func randomStep(r *rand.Rand, x *pair) step {
	if len(x.ss) == 0 || x.d.Down() && r.Intn(3) > 0 {
		return []step{up(), bootedAs(small)}[r.Intn(2)]
	}
	i := len(x.ss) - 1
	if r.Intn(12) == 0 {
		i = r.Intn(len(x.ss))
	}
	if x.ps[i].stopped && r.Intn(3) > 0 {
		return bootedAs(small)
	}
	n := len(x.ps[i].order)
	switch r.Intn(60) {
	case 0, 1:
		return arm(r.Intn(5), r.Intn(70))
	case 2:
		return crash(r.Intn(70))
	case 3:
		return bootedAs(small)
	case 4:
		return bootedAs(api.Limits{Clients: 1 + r.Intn(3), Cells: 1 + r.Intn(12), Ops: 1 + r.Intn(6)})
	case 5:
		return logged(r.Intn(n+3)-1, r.Intn(n+3)-1).on(i)
	case 6:
		b := randomFrame(r, x.ps[i])
		b[r.Intn(len(b))] ^= 1 << r.Intn(8)
		return handle(b).on(i)
	case 7:
		p := x.ps[i]
		if n > 0 {
			return handle(p.castOf(1, 1+r.Intn(n)).Bytes).on(i)
		}
		return handle(ackOf(1, 1, 1).Bytes).on(i)
	case 8:
		return []step{fileAppend([]byte{1, 2, 3}), fileSync(), fileCut(r.Intn(60))}[r.Intn(3)]
	}
	if r.Intn(4) == 0 {
		return tick().on(i)
	}
	return handle(randomFrame(r, x.ps[i])).on(i)
}

// Long scripts of all calls, beside the chapter's words.
func TestP14_1Scripts(t *testing.T) {
	r := rand.New(rand.NewSource(62))
	seen := map[string]int{}
	longest := 0
	for range 600 {
		limit := wide
		if r.Intn(4) == 0 {
			limit = 60 + r.Intn(400)
		}
		x := newPair(t, limit)
		for range 60 {
			got := x.do(randomStep(r, x)).trouble
			seen[got]++
		}
		for i, s := range x.ss {
			sameView(t, s)
			longest = max(longest, len(x.ps[i].order))
		}
	}
	if longest < 14 {
		t.Errorf("the longest log has only %d commands", longest)
	}
	for _, e := range []api.Errno{api.ErrPlace, api.ErrUnknown, api.ErrTarget, api.ErrOps, api.ErrCells, api.ErrMark, api.ErrSum, api.ErrCode, api.ErrStopped, api.ErrBase, api.ErrSeq, api.ErrStale, api.ErrClient} {
		if n := seen[trouble("Handle", 0, e)]; n < 10 {
			t.Errorf("only %d of Handle's error %d", n, e)
		}
	}
	full := 0
	for s, n := range seen {
		if strings.HasPrefix(s, "Handle at 0: Append at ") {
			full += n
		}
	}
	if full < 10 || seen[trouble("Tick", 0, api.ErrStopped)] < 10 || seen["Boot at 0: Open at 0: redraft: error 110"] < 10 {
		t.Errorf("too few of other errors: %v", seen)
	}
}

// Every script of four calls out of these, behind a server with one durable and one loose command, on a disk with little room.
func TestP14_1AllShortScripts(t *testing.T) {
	calls := []step{
		handle(hello(1, 0)), handle(hello(2, 1)), handle(hello(3, 2)), handle(sub(1, 0, `1.1 ins 0 "a"`)), handle(sub(2, 0, `2.1 ins 0 "b"`)),
		handle(sub(1, 1, `1.2 ins 1 "c"`)), handle(sub(2, 2, `2.2 hide 0-2`)), handle(sub(3, 1, `3.1 off 1.1`)), handle(sub(3, 0, `3.1 ins 0 "more than fits"`)),
		tick(), arm(1, 0), arm(2, 13), up(),
	}
	n := len(calls)
	for i := range n * n * n * n {
		x := newPair(t, 90)
		x.all(booted(), handle(sub(1, 0, `1.1 ins 0 "a"`)), tick(), handle(sub(2, 0, `2.1 ins 0 "b"`)), calls[i%n], calls[i/n%n], calls[i/n/n%n], calls[i/n/n/n])
	}
}

// P14.11: a client that says Hello at 0 and is told all its packets knows the whole log, whoever it is and whatever it has written itself.
func TestP14_11WholeLog(t *testing.T) {
	r := rand.New(rand.NewSource(63))
	for range 300 {
		x := newPair(t, wide)
		x.do(bootedAs(small))
		heard := [4]map[int]string{{}, {}, {}, {}}
		for range 50 {
			s := handle(randomFrame(r, x.ps[0]))
			if r.Intn(3) == 0 {
				s = tick()
			}
			hearAll(t, &heard, x.do(s).packets)
		}
		for c := 1; c <= 3; c++ {
			x.is(handle(hello(c, 0)), api.OK)
		}
		hearAll(t, &heard, x.do(tick()).packets)
		hearAll(t, &heard, x.do(tick()).packets)
		log := logOf(t, x.ss[0])
		for c := 1; c <= 3; c++ {
			if len(heard[c]) != len(log) {
				t.Fatalf("P14.11: client %d has heard of %d commands of %d", c, len(heard[c]), len(log))
			}
			for k, s := range log {
				if got := heard[c][k+1]; got != s && got != fmt.Sprintf("%d.%d", c, parse(s).ID[1]) || parse(s).ID[0] != c && got != s {
					t.Fatalf("P14.11: client %d has heard of %d as %q, it is %q", c, k+1, got, s)
				}
			}
		}
	}
}

// hearAll: by client and revision what it is told; a Cast and an Ack of one revision must tell the same.
func hearAll(t *testing.T, heard *[4]map[int]string, ps []api.Packet) {
	t.Helper()
	for i, s := range told(t, ps) {
		c := ps[i].To
		head, what, _ := strings.Cut(s, " ")
		var r int
		if _, err := fmt.Sscanf(head[1:], "%d>", &r); err != nil {
			t.Fatal(err)
		}
		if head[0] == 'A' {
			what = fmt.Sprintf("%d.%s", c, what)
		}
		was, ok := heard[c][r]
		if ok && was != what && idOf(was) != idOf(what) {
			t.Fatalf("P14.11: client %d hears of %d as %q, then as %q", c, r, was, what)
		}
		heard[c][r] = what
	}
}

// The same calls give the same answers: what is told hangs on nothing else.
func TestP14_1Again(t *testing.T) {
	run := func() (out []string) {
		r := rand.New(rand.NewSource(64))
		x := newPair(t, wide)
		x.do(bootedAs(small))
		for range 200 {
			got := x.do(randomStep(r, x))
			out = append(out, got.trouble, strings.Join(told(t, got.packets), ","), show(x.d))
		}
		return out
	}
	if a, b := run(), run(); !slices.Equal(a, b) {
		t.Fatal("rule 14: two runs of the same calls part")
	}
}
