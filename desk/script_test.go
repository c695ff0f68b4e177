package desk_test

import (
	"math"
	"math/rand"
	"slices"
	"strings"
	"testing"

	"redraft/api"
)

// letters: what a short script is made of. Each does something at the desk as it stands.
var letters = []func(*seat){
	func(s *seat) { s.insert(0, "a") },
	func(s *seat) { s.insert(s.d.Shown(), "bc") },
	func(s *seat) { s.insert(1, "d") },
	func(s *seat) { s.delete(0, 1) },
	func(s *seat) { s.delete(s.d.Shown()-1, 1) },
	func(s *seat) { s.delete(0, s.d.Shown()) },
	func(s *seat) { s.move(1) },
	func(s *seat) { s.undo() },
	func(s *seat) { s.redo() },
	func(s *seat) { s.toggle(0) },
	func(s *seat) { s.takeNext(ins(0, 0, 0, "XY")) },
	func(s *seat) { s.takeNext(ins(0, 0, len(s.m.row(s.m.received)), "Z")) },
	func(s *seat) { s.takeNext(hide(0, 0, 0, max(1, len(s.m.row(s.m.received))))) },
	func(s *seat) { s.takeStatus(0) },
	func(s *seat) { s.confirmFirst() },
}

// toggle: Turn of the k-th command of the view.
func (s *seat) toggle(k int) {
	s.t.Helper()
	if k < len(s.m.order) {
		id := s.m.order[k].ID
		s.turn(id, !s.m.flag(id))
	}
}

// takeNext: o as the next command of client 2.
func (s *seat) takeNext(o api.Op) api.Errno {
	s.t.Helper()
	o.ID = api.ID{2, s.m.last(2) + 1}
	return s.take(o)
}

// takeStatus: client 2 turns the k-th command.
func (s *seat) takeStatus(k int) {
	s.t.Helper()
	if k < s.m.received {
		id := s.m.order[k].ID
		s.takeNext(status(0, 0, id, !s.m.order[:s.m.received].flag(id)))
	}
}

func (s *seat) confirmFirst() {
	s.t.Helper()
	id := api.ID{s.m.user, 1}
	if s.m.received < len(s.m.order) {
		id = s.m.order[s.m.received].ID
	}
	s.confirm(id)
}

// P8.15: all scripts of four letters, every second one behind a command of another.
func TestShortScripts(t *testing.T) {
	n := len(letters)
	for script := range n * n * n * n {
		s := sit(t, 1, room(2, 30, 30))
		if script%2 == 0 {
			s.take(ins(2, 1, 0, "o"))
		}
		for _, k := range []int{script % n, script / n % n, script / n / n % n, script / n / n / n} {
			letters[k](s)
		}
		s.is("a short script")
		if t.Failed() {
			t.Fatalf("script %d", script)
		}
	}
}

var texts = []string{"x", "yz", "é€", "\n", "abc"}

var otherTexts = []string{"", "\xff", "a\x00", "0123456789", strings.Repeat("w", 256), strings.Repeat("w", 257)}

// anything: a call with arguments that most times are right.
func (s *seat) anything(rnd *rand.Rand) {
	s.t.Helper()
	p := rnd.Intn(s.d.Shown() + 1)
	if rnd.Intn(20) == 0 {
		p = []int{-1, s.d.Shown() + 1, math.MinInt, math.MaxInt}[rnd.Intn(4)]
	}
	switch rnd.Intn(12) {
	case 0, 1, 2:
		text := texts[rnd.Intn(len(texts))]
		if rnd.Intn(8) == 0 {
			text = otherTexts[rnd.Intn(len(otherTexts))]
		}
		s.insertChecked(p, text)
	case 3, 4:
		n := 1 + rnd.Intn(3)
		if rnd.Intn(10) == 0 {
			n = []int{0, -1, s.d.Shown(), math.MaxInt, math.MinInt}[rnd.Intn(5)]
		}
		s.deleteChecked(p, n)
	case 5:
		s.move(p)
	case 6, 7:
		s.undo()
	case 8:
		s.redo()
	case 9:
		s.turn(s.someID(rnd), rnd.Intn(3) == 0)
	default:
		s.fromOutside(rnd)
	}
}

func (s *seat) someID(rnd *rand.Rand) api.ID {
	if len(s.m.order) == 0 || rnd.Intn(10) == 0 {
		return api.ID{rnd.Intn(4), rnd.Intn(9)}
	}
	return s.m.order[rnd.Intn(len(s.m.order))].ID
}

// fromOutside: what a server would do, most times.
func (s *seat) fromOutside(rnd *rand.Rand) {
	s.t.Helper()
	switch rnd.Intn(5) {
	case 0, 1:
		s.confirmFirst()
	case 2:
		s.confirm(s.someID(rnd))
	default:
		client := 1 + rnd.Intn(3)
		o := some(rnd, s.m.order, s.m.received, api.ID{client, s.m.last(client) + 1})
		if rnd.Intn(8) == 0 {
			o = spoilt(rnd, o)
		}
		s.take(o)
	}
}

// spoilt: the same, but wrong most times.
func spoilt(rnd *rand.Rand, o api.Op) api.Op {
	switch rnd.Intn(7) {
	case 0:
		o.ID[0] = []int{0, -1, 1, 4, 9}[rnd.Intn(5)]
	case 1:
		o.ID[1] = []int{0, -1, 1, 60, 61, 1024, 1025}[rnd.Intn(7)]
	case 2:
		o.Kind = api.Kind(rnd.Intn(6))
	case 3:
		o.At += rnd.Intn(9) - 4
	case 4:
		o.Text = []string{"", "\xff", "\x00", strings.Repeat("m", 70)}[rnd.Intn(4)]
	case 5:
		o.Ranges = append(slices.Clone(o.Ranges), api.Range{Lo: rnd.Intn(5), Hi: rnd.Intn(9)})
	case 6:
		o.Target = api.ID{rnd.Intn(4), rnd.Intn(4)}
	}
	return o
}

// insertChecked: P8.16 of an insert.
func (s *seat) insertChecked(p int, text string) {
	s.t.Helper()
	was := []rune(s.d.Text())
	if _, e := s.insert(p, text); e != api.OK {
		return
	}
	want := string(was[:p]) + text + string(was[p:])
	if s.d.Text() != want || s.d.Caret() != p+runes(text) {
		s.t.Errorf("P8.16: Insert(%d, %q) makes %q of %q, caret %d", p, text, s.d.Text(), string(was), s.d.Caret())
	}
}

// deleteChecked: P8.16 of a delete.
func (s *seat) deleteChecked(p, n int) {
	s.t.Helper()
	was := []rune(s.d.Text())
	if _, e := s.delete(p, n); e != api.OK {
		return
	}
	want := string(was[:p]) + string(was[p+n:])
	if s.d.Text() != want || s.d.Caret() != p {
		s.t.Errorf("P8.16: Delete(%d, %d) makes %q of %q, caret %d", p, n, s.d.Text(), string(was), s.d.Caret())
	}
}

// P8.15, P8.16: desks in rooms of all sizes, at all that may be done to them, right and wrong.
func TestRandomScripts(t *testing.T) {
	for seed := range int64(300) {
		rnd := rand.New(rand.NewSource(8000 + seed))
		lim := room(3, []int{5, 20, 60}[rnd.Intn(3)], []int{6, 15, 60}[rnd.Intn(3)])
		s := sit(t, 1+rnd.Intn(3), lim)
		for range 40 {
			was := told(s.d)
			length, r := s.d.Len(), s.d.Received()
			s.anything(rnd)
			if s.d.Len() == length && s.d.Received() == r {
				s.onlyMoved(was)
			}
			s.is("a random script")
			if t.Failed() {
				t.Fatalf("seed %d", seed)
			}
		}
	}
}

// onlyMoved: no command has come, so nothing but the caret may be other than it was.
func (s *seat) onlyMoved(was string) {
	s.t.Helper()
	now := told(s.d)
	cut := func(all string) string { // user and received stand ahead of gap and caret, all else behind
		return all[strings.Index(all, "["):]
	}
	if cut(now) != cut(was) {
		s.t.Errorf("P8.5, P8.9: a call without a command has made %s of %s", now, was)
	}
}
