package annals_test

import (
	"fmt"
	"math/rand"
	"testing"

	"redraft/annals"
	"redraft/api"
)

// letters: what a short script is made of. Each puts a command into the view, if it can.
func letters() []func(*scene) {
	end := func(s *scene) int { return len(s.w) }
	return []func(*scene){
		func(s *scene) { s.put(end(s), ins(1, s.last(1)+1, 0, "ab")) },
		func(s *scene) { s.put(end(s), ins(2, s.last(2)+1, s.r.Total(), "x")) },
		func(s *scene) { s.put(end(s), ins(2, s.last(2)+1, s.r.Total()/2, "ba")) },
		func(s *scene) { s.put(0, ins(1, s.last(1)+1, 0, "y")) },
		func(s *scene) { s.cover(end(s), 1, 0, 1) },
		func(s *scene) { s.cover(end(s), 2, 0, s.r.Total()) },
		func(s *scene) { s.cover(len(s.w)/2, 2, 0, 1) },
		func(s *scene) { s.turn(end(s), 0, false) },
		func(s *scene) { s.turn(end(s), 1, false) },
		func(s *scene) { s.turn(end(s), 0, true) },
		func(s *scene) { s.turn(len(s.w)-1, 1, false) },
	}
}

// cover: a Hide as command number i, of at most n cells from lo on.
func (s *scene) cover(i, client, lo, n int) {
	s.t.Helper()
	if hi := min(lo+n, len(s.w[:i].row())); hi > lo {
		s.put(i, hide(client, s.last(client)+1, lo, hi))
	}
}

// turn: a Status on the k-th command, as command number i.
func (s *scene) turn(i, k int, to bool) {
	s.t.Helper()
	if k >= i || s.w[k].Kind == api.Status {
		return
	}
	o := off(3, s.last(3)+1, s.w[k].ID)
	o.On = to
	s.put(i, o)
}

func TestShortScripts(t *testing.T) {
	all := letters()
	n := len(all)
	for script := range n * n * n * n {
		s := viewOf(t)
		for _, k := range []int{script % n, script / n % n, script / n / n % n, script / n / n / n} {
			all[k](s)
		}
		agree(t, fmt.Sprintf("script %d", script), s.r, s.w)
		if t.Failed() {
			t.FailNow()
		}
	}
}

// some: an operation that may stand as number i of the view.
func (s *scene) some(rnd *rand.Rand, i int) api.Op {
	client := 1 + rnd.Intn(4)
	number := s.last(client) + 1
	row := s.w[:i].row()
	switch k := rnd.Intn(8); {
	case k < 3 || len(row) == 0:
		return ins(client, number, rnd.Intn(len(row)+1), []string{"a", "ab", "b", "é", "€a", "a\nb", "\U0001f600"}[rnd.Intn(7)])
	case k < 6:
		var bounds []int
		for q := rnd.Intn(len(row)); q < len(row); q += 2 + rnd.Intn(3) {
			hi := min(q+1+rnd.Intn(3), len(row))
			bounds = append(bounds, q, hi)
			q = hi
		}
		return hide(client, number, bounds...)
	}
	target := s.w[rnd.Intn(i)]
	for target.Kind == api.Status {
		target = s.w[rnd.Intn(i)]
	}
	o := off(client, number, target.ID)
	o.On = rnd.Intn(2) == 0
	return o
}

// grow: one more command, at the end or anywhere.
func (s *scene) grow(rnd *rand.Rand) {
	s.t.Helper()
	i := len(s.w)
	if rnd.Intn(2) == 0 {
		i = rnd.Intn(len(s.w) + 1)
	}
	s.put(i, s.some(rnd, i))
}

func TestScripts(t *testing.T) {
	rnd := rand.New(rand.NewSource(1801))
	for script := range 120 {
		s := viewOf(t)
		for step := range 14 {
			s.grow(rnd)
			if step%3 == 1 {
				agree(t, fmt.Sprintf("script %d, step %d", script, step), s.r, s.w)
			}
		}
		agree(t, fmt.Sprintf("script %d", script), s.r, s.w)
		if t.Failed() {
			t.FailNow()
		}
	}
}

// Long ones, some numbers of which are compared.
func TestLongScripts(t *testing.T) {
	rnd := rand.New(rand.NewSource(1802))
	for script := range 6 {
		s := viewOf(t)
		for range 60 {
			s.grow(rnd)
		}
		what := fmt.Sprintf("long script %d", script)
		m := modelOf(s.w)
		agreeNow(t, what, s.r, m)
		agreeTexts(t, what, s.r, m)
		laws(t, what, s.r)
		for range 60 {
			lo, hi := rnd.Intn(61), rnd.Intn(61)
			list, e := annals.Changes(s.r, lo, hi)
			want, wantE := m.changes(lo, hi)
			same(t, fmt.Sprintf("P18.6: %s: Changes(%d, %d)", what, lo, hi), list, e, want, wantE)
			text, e := annals.At(s.r, lo)
			same(t, fmt.Sprintf("P18.5: %s: At(%d)", what, lo), text, e, behind(t, s.r, lo).Text(), api.OK)
		}
		for k, text := range annals.Replay(s.r) {
			if text != m.text(k) {
				t.Errorf("P18.8: %s: Replay gives %d, %q, want %q", what, k, text, m.text(k))
			}
		}
	}
}

// The same order, put in by other turns, is told alike: a view is asked for its order, not for how it came about.
func TestPutInOtherTurns(t *testing.T) {
	rnd := rand.New(rand.NewSource(1803))
	for script := range 40 {
		s := viewOf(t)
		for range 16 {
			s.grow(rnd)
		}
		straight := behind(t, s.r, s.r.Len())
		if a, b := shape(handoutOf(s.r)), shape(handoutOf(straight)); a != b {
			t.Errorf("script %d: told %s, and %s of the same order", script, a, b)
		}
		same(t, fmt.Sprintf("P18.8: script %d: Replay", script), given(annals.Replay(s.r)), api.OK, given(annals.Replay(straight)), api.OK)
	}
}
