package marks_test

import (
	"fmt"
	"math/rand"
	"strings"
	"testing"

	"redraft/api"
	"redraft/op"
)

// context: how many cells there are in the context of command number i.
func (s *scene) context(i int) int {
	s.t.Helper()
	ops, err := s.r.Ops(0, i)
	if err != nil {
		s.t.Fatal(err)
	}
	n := 0
	for _, o := range ops {
		n += op.Width(o)
	}
	return n
}

// edits: the ids of the edits among the first i commands.
func (s *scene) edits(i int) []api.ID {
	var list []api.ID
	for k := range i {
		if x, _ := s.r.Entry(k); x.Kind != api.Status {
			list = append(list, x.ID)
		}
	}
	return list
}

// lawfulWrite: an insert of n runes at a place of the context of command number i: what it does to the texts of the marks (P20.11).
func (s *scene) lawfulWrite(what string, i, client, at, n int) {
	s.t.Helper()
	was, places := s.texts(), s.want()
	x := s.write(i, client, at, n)
	is := s.texts()
	for _, m := range places {
		old, now := was[m.Name], is[m.Name]
		inside := m.Lo < x.At && x.At < m.Hi
		if inside && (!strings.Contains(now, x.Text) || strings.Replace(now, x.Text, "", 1) != old) {
			s.t.Errorf("P20.11: %s: %q written inside of %v: its text is %q, was %q", what, x.Text, m, now, old)
		}
		if !inside && now != old {
			s.t.Errorf("P20.11: %s: %q written ahead of %v or behind it: its text is %q, was %q", what, x.Text, m, now, old)
		}
	}
}

// thereAndBack: an edit is turned, and turned back: each mark's text is what it was.
func (s *scene) thereAndBack(what string, client int, id api.ID) {
	s.t.Helper()
	at, err := s.r.Find(id)
	if err != nil {
		s.t.Fatal(err)
	}
	x, _ := s.r.Entry(at)
	was := s.texts()
	s.turn(client, id, !x.On)
	s.agree(what + ", turned")
	s.turn(client, id, x.On)
	if got := s.texts(); shape(got) != shape(was) {
		s.t.Errorf("P20.11: %s: %v turned and turned back: texts %v, were %v", what, id, got, was)
	}
}

// steps: what a short script is made of; each does what it can.
func steps() []func(*scene, string) {
	return []func(*scene, string){
		func(s *scene, what string) { s.lawfulWrite(what, s.r.Len(), 1, 0, 1) },
		func(s *scene, what string) { s.lawfulWrite(what, s.r.Len(), 2, s.r.Total(), 2) },
		func(s *scene, what string) { s.lawfulWrite(what, s.r.Len(), 2, s.r.Total()/2, 1) },
		func(s *scene, what string) { s.lawfulWrite(what, s.r.Len(), 1, min(1, s.r.Total()), 2) },
		func(s *scene, what string) { s.lawfulWrite(what, 0, 3, 0, 2) },
		func(s *scene, what string) { s.lawfulWrite(what, 1, 3, s.context(1), 1) },
		func(s *scene, _ string) { s.put(s.r.Len(), hide(1, s.next(1), 0, 1)) },
		func(s *scene, _ string) { s.put(s.r.Len(), hide(2, s.next(2), 1, s.r.Total())) },
		func(s *scene, _ string) { s.put(1, hide(3, s.next(3), 1, s.context(1))) },
		func(s *scene, _ string) { s.turn(2, s.edits(s.r.Len())[0], false) },
		func(s *scene, what string) {
			list := s.edits(s.r.Len())
			s.thereAndBack(what, 3, list[len(list)-1])
		},
		func(s *scene, _ string) { s.erased() },
	}
}

// started: a view of four cells, of which the second and third are hidden, with a mark on every stretch.
func started(t *testing.T) *scene {
	s := newScene(t)
	s.write(0, 1, 0, 4)
	s.put(1, hide(1, 2, 1, 3))
	for lo := range 4 {
		for hi := lo + 1; hi <= 4; hi++ {
			s.mark(fmt.Sprintf("%d-%d", lo, hi), lo, hi)
		}
	}
	return s
}

// Every script of three steps.
func TestP20_10ShortScripts(t *testing.T) {
	all := steps()
	n := len(all)
	for script := range n * n * n {
		s := started(t)
		for _, k := range []int{script % n, script / n % n, script / n / n} {
			what := fmt.Sprintf("script %d, step %d", script, k)
			all[k](s, what)
			s.agree(what)
		}
		if t.Failed() {
			t.FailNow()
		}
	}
}

// erased: to ask for an order without an edit changes nothing; and a view of that order, with a book beside it from its first command on, keeps its marks too.
func (s *scene) erased() {
	s.t.Helper()
	for _, id := range s.edits(s.r.Len()) {
		ops, err := s.r.Erase(id)
		if err != nil {
			continue
		}
		other := newScene(s.t)
		for i, o := range ops {
			other.put(i, o)
			if n := other.r.Total(); i%3 == 0 && n > 0 {
				other.mark(numberedName(i), i%n, n)
			}
		}
		other.agree(fmt.Sprintf("without %v", id))
	}
}

// some: an operation that may stand as number i.
func (s *scene) some(rnd *rand.Rand, i int) api.Op {
	client := 1 + rnd.Intn(api.MaxClients)
	n, edits := s.context(i), s.edits(i)
	switch k := rnd.Intn(8); {
	case k < 3 || n == 0:
		return ins(client, s.next(client), rnd.Intn(n+1), s.fresh(1+rnd.Intn(4)))
	case k < 6:
		o := hide(client, s.next(client))
		for at := rnd.Intn(n); at < n; at += 2 + rnd.Intn(4) {
			hi := min(at+1+rnd.Intn(3), n)
			o.Ranges = append(o.Ranges, api.Range{Lo: at, Hi: hi})
			at = hi
		}
		return o
	}
	return status(client, s.next(client), edits[rnd.Intn(len(edits))], rnd.Intn(2) == 0)
}

// remark: a mark more, or one less.
func (s *scene) remark(rnd *rand.Rand) {
	s.t.Helper()
	if len(s.known) > 12 {
		s.drop(s.known[rnd.Intn(len(s.known))].name)
	}
	if n := s.r.Total(); n > 0 {
		lo := rnd.Intn(n)
		s.named++
		s.mark(fmt.Sprintf("%c%d", 'a'+rune(rnd.Intn(26)), s.named), lo, lo+1+rnd.Intn(n-lo))
	}
}

// A view goes on beside its book: commands of eight users, at the end and anywhere, and marks that come and go.
func TestP20_10Scripts(t *testing.T) {
	rnd := rand.New(rand.NewSource(2010))
	for script := range 80 {
		s := newScene(t)
		for step := range 40 {
			what := fmt.Sprintf("script %d, step %d", script, step)
			i := s.r.Len()
			if rnd.Intn(2) == 0 {
				i = rnd.Intn(i + 1)
			}
			if o := s.some(rnd, i); o.Kind == api.Ins {
				s.lawfulWrite(what, i, o.ID[0], o.At, len([]rune(o.Text)))
			} else {
				s.put(i, o)
			}
			if list := s.edits(s.r.Len()); step%5 == 2 {
				s.thereAndBack(what, 1+rnd.Intn(api.MaxClients), list[rnd.Intn(len(list))])
			}
			s.remark(rnd)
			s.agree(what)
		}
		s.erased()
		if t.Failed() {
			t.FailNow()
		}
	}
}

// A book that is made for a view that has gone on already.
func TestP20_10FromThenOn(t *testing.T) {
	rnd := rand.New(rand.NewSource(2011))
	for script := range 40 {
		s := newScene(t)
		for range 20 {
			i := rnd.Intn(s.r.Len() + 1)
			s.put(i, s.some(rnd, i))
		}
		s.b = newBook(t, s.r.Total())
		for step := range 20 {
			s.remark(rnd)
			i := rnd.Intn(s.r.Len() + 1)
			s.put(i, s.some(rnd, i))
			s.agree(fmt.Sprintf("script %d, step %d", script, step))
		}
	}
}
