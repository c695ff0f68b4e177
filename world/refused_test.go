package world_test

import (
	"fmt"
	"math/rand"
	"slices"
	"testing"

	"redraft/api"
	"redraft/world"
)

// toldBy: all that a world tells, as a text.
func toldBy(w *world.World) string {
	out := fmt.Sprintf("%+v %v %d %s %s", w.Views(), w.Order(), w.Bound(), flightTexts(w.Flights()), fileTexts(w.Files()))
	for n := range len(w.Views()) {
		ops, e := w.Ops(n)
		out += fmt.Sprintf(" %q %d", lines(ops), int(e))
	}
	return out
}

// P3: a step that is refused changes nothing that can be seen. (What Deliver takes out of the network, and what a crash changes, the chapter says.)
func TestP3Refused(t *testing.T) {
	for i := range states(t) {
		x := states(t)[i]
		list := []api.Step{
			join(0), join(-1), join(3), ins(1, -1, "x"), ins(1, 99, "x"), ins(1, 0, ""), ins(1, 0, "\xc0"), ins(3, 0, "x"), del(1, 0, 0), del(1, -1, 1), del(1, 0, 99), del(2, far[5], far[5]),
			move(1, -1), move(2, 99), redo(1), redo(2), off(1, 7, 1), on(1, 1, 1), on(2, 0, 0), tick(3), tick(-1), deliver(-1), deliver(99), drop(-1), drop(99), double(99), spoil(99, 0, 1), spoil(3, 0, 0),
			spoil(3, -1, 1), spoil(3, 999, 1), junk(0, ""), junk(0, "x"), junk(1, string(frameOf("x"))), junk(2, "x"), arm(-1, 0), arm(1, -1), boot(-1, 0), boot(0, -1), view(3), {}, {Kind: 19}, {Kind: -1},
		}
		for _, s := range list {
			before := toldBy(x.w)
			if a := x.do(s); a.Code == api.OK || a != fails(a.Code) {
				t.Fatalf("P3: %s: %+v, want a number and no more", x.script(), a)
			}
			if after := toldBy(x.w); after != before {
				t.Fatalf("P3: %s, refused, has changed %s to %s", stepText(s), before, after)
			}
		}
	}
}

// idle: what a step that was refused would have to be left out for: nothing, or a Drop of the packet that a node refused; false, if the disk has crashed in it.
func idle(s api.Step, a api.Answer, crashed bool) (instead []api.Step, same bool) {
	switch {
	case a.Code == api.OK || crashed || s.Kind == api.StepBoot && a.Code == api.ErrStopped:
		return []api.Step{s}, false
	case s.Kind == api.StepDeliver && a.Code != api.ErrPacket:
		return []api.Step{drop(s.A)}, true
	}
	return nil, true
}

// P3: nor does it change anything that can't be seen yet: a world that never met those steps answers the same from then on.
func TestP3Never(t *testing.T) {
	left := 0
	for seed := range int64(150) {
		r := rand.New(rand.NewSource(3300 + seed))
		x := randomPair(t, r)
		other := made(t, x.p.lim)
		for _, s := range x.steps {
			other.Play(s)
		}
		for range 150 {
			s := randomStep(r, x.p, weathers[r.Intn(len(weathers))])
			ran := x.p.runs
			a := x.try(s)
			instead, same := idle(s, a, ran && !x.p.runs)
			if same {
				left++
			}
			for _, o := range instead {
				if b := other.Play(o); !same && a != b {
					t.Fatalf("P3: %s: %+v, but %+v where what was refused never came", x.script(), a, b)
				}
			}
		}
		if got, want := toldBy(other), toldBy(x.w); got != want {
			t.Fatalf("P3: %s: %s, but %s where what was refused never came", x.script(), want, got)
		}
	}
	if left < 3000 {
		t.Errorf("only %d steps were left out", left)
	}
}

// P3: a frame whose turn is past changes nothing: all that was ever under way comes once more.
func TestP3Past(t *testing.T) {
	x := pairAt(t)
	for i := range 6 {
		x.do(ins(1+i%2, 0, "word"))
		for n := range 3 {
			x.do(tick(n))
		}
		for _, f := range x.w.Flights() {
			x.do(double(f.Number))
			x.do(deliver(f.Number))
		}
	}
	views, order := x.w.Views(), x.w.Order()
	for _, f := range x.w.Flights() {
		if a := x.do(deliver(f.Number)); f.Packet.To > 0 && a.Code != api.ErrOld {
			t.Fatalf("P3: %s: %+v", flightText(f), a)
		}
	}
	if !slices.Equal(x.w.Views(), views) || !slices.Equal(x.w.Order(), order) {
		t.Fatalf("P3: frames of the past have changed %+v to %+v", views, x.w.Views())
	}
}
