package client_test

import (
	"math/rand"
	"slices"
	"strings"
	"testing"

	"redraft/api"
)

// small: limits that are soon reached.
var small = api.Limits{Clients: 3, Cells: 30, Ops: 14}

// P15.1 to P15.7: long scripts of all calls, beside the chapter's words.
func TestScripts(t *testing.T) {
	seen := map[api.Errno]int{}
	taken, most, thrown := 0, 0, 0
	for seed := range int64(500) {
		d := &day{r: rand.New(rand.NewSource(1500 + seed))}
		x := pairOf(t, 1+d.r.Intn(3), []api.Limits{room, small}[seed%2])
		for range 60 {
			r, held := x.p.received, len(x.p.held)
			s := d.next(x.p)
			got := x.do(s)
			heldToP15_9(t, x.c, got.packets)
			if s.kind == "Handle" && got.trouble != "" {
				seen[codeOf(got.trouble)]++
			}
			taken += x.p.received - r
			most = max(most, x.p.received-r)
			if s.kind == "Handle" && got.trouble == "" && held+1-len(x.p.held) > x.p.received-r {
				thrown++
			}
		}
	}
	for _, e := range []api.Errno{api.ErrShort, api.ErrMark, api.ErrSum, api.ErrTail, api.ErrCode, api.ErrCut, api.ErrField, api.ErrRest, api.ErrClient, api.ErrOld, api.ErrDouble, api.ErrFar, api.ErrTurn} {
		if seen[e] < 20 {
			t.Errorf("only %d of Handle's error %d", seen[e], e)
		}
	}
	if taken < 4000 || most < 5 || thrown < 20 {
		t.Errorf("%d turns, at most %d at once, %d thrown away later", taken, most, thrown)
	}
}

// codeOf: the number that a fault's text ends with.
func codeOf(s string) api.Errno {
	n := 0
	for _, c := range s[strings.LastIndex(s, " ")+1:] {
		n = 10*n + int(c-'0')
	}
	return api.Errno(n)
}

// letters: what a short script is made of. Each is a step of the client as it stands.
var letters = []func(p *plain) step{
	func(p *plain) step { return tick() },
	func(p *plain) step { return insert(0, "a") },
	func(p *plain) step { return insert(len(p.visible()), "bc") },
	func(p *plain) step { return remove(0, 1) },
	func(p *plain) step { return undo() },
	func(p *plain) step { return handle(ack(p.received+1, p.firstNumber())) },
	func(p *plain) step { return handle(ack(p.received+2, p.firstNumber())) },
	func(p *plain) step { return handle(ack(p.received+2, p.firstNumber()+1)) },
	func(p *plain) step {
		if p.received == len(p.order) {
			return handle(cast(p.received+1, `1.1 ins 0 "a"`))
		}
		return handle(castTo(1, p.received+1, p.firstPending()))
	},
	func(p *plain) step { return handle(castTo(1, p.received+1, p.others(api.Ins))) },
	func(p *plain) step { return handle(castTo(1, p.received+2, p.others(api.Ins))) },
	func(p *plain) step { return handle(castTo(1, p.received+1, p.others(api.Hide))) },
	func(p *plain) step { return handle(castTo(1, p.received+1, p.others(api.Status))) },
}

// firstNumber: of the first pending command; of the next one, if nothing is pending.
func (p *plain) firstNumber() int {
	n := 1
	for _, m := range p.order[:p.received] {
		if m.ID[0] == p.user {
			n = m.ID[1] + 1
		}
	}
	return n
}

// others: the next command of client 2, behind the received ones: at their beginning, or on the first one of them.
func (p *plain) others(kind api.Kind) api.Op {
	n, _ := p.made(2)
	o := api.Op{Head: api.Head{ID: api.ID{2, n + 1}, Kind: kind}}
	switch kind {
	case api.Ins:
		o.Text = "XY"
	case api.Hide:
		o.Ranges = []api.Range{{Lo: 0, Hi: 1}}
	default:
		o.Target = api.ID{3, 1}
	}
	return o
}

// Every script of four letters, every second one behind a command of another.
func TestShortScripts(t *testing.T) {
	n := len(letters)
	for script := range n * n * n * n {
		x := pairOf(t, 1, api.Limits{Clients: 3, Cells: 30, Ops: 30})
		if script%2 == 0 {
			x.try(handle(cast(1, `3.1 ins 0 "o"`)))
		}
		for _, k := range []int{script % n, script / n % n, script / n / n % n, script / n / n / n} {
			x.try(letters[k](x.p))
		}
		x.see()
		x.try(tick())
		x.see()
	}
}

// Rule 14: the same calls give the same answers.
func TestSameAgain(t *testing.T) {
	run := func() (out []string) {
		d := &day{r: rand.New(rand.NewSource(77))}
		x := pairOf(t, 2, room)
		for range 300 {
			got := x.try(d.next(x.p))
			out = append(out, got.trouble, got.made, strings.Join(sent(t, 2, got.packets), ","), told(t, x.c))
		}
		return out
	}
	if a, b := run(), run(); !slices.Equal(a, b) {
		t.Fatal("rule 14: two runs of the same calls part")
	}
}
