package marks_test

import (
	"slices"
	"strings"
	"testing"
	"unsafe"

	"redraft/api"
)

// overwrite: all of a list's memory, spare room too, and what an append writes.
func overwrite[T any](l []T, with T) {
	whole := l[:cap(l)]
	for i := range whole {
		whole[i] = with
	}
	_ = append(l, with, with)
}

// stretch: where a list, or a string, lies in memory.
type stretch struct{ lo, hi uintptr }

func stretchOf[T any](l []T) stretch {
	var one T
	lo := uintptr(unsafe.Pointer(unsafe.SliceData(l)))
	return stretch{lo, lo + uintptr(cap(l))*unsafe.Sizeof(one)}
}

func bytesOf(s string) stretch {
	lo := uintptr(unsafe.Pointer(unsafe.StringData(s)))
	return stretch{lo, lo + uintptr(len(s))}
}

func (x stretch) meets(y stretch) bool {
	return x.lo < x.hi && y.lo < y.hi && x.lo < y.hi && y.lo < x.hi
}

// handout: all that the book hands out.
type handout struct {
	marks       []api.Mark
	over, swept []string
	texts       []string
}

func (s *scene) handout() handout {
	s.t.Helper()
	var h handout
	h.marks = s.b.Marks()
	h.over, _ = s.b.Over(0, s.b.Total())
	h.swept, _ = s.b.Sweep(s.r)
	for _, k := range s.known {
		text, _ := s.b.Text(k.name, s.r)
		h.texts = append(h.texts, text)
	}
	return h
}

func (h handout) stretches() []stretch {
	return []stretch{stretchOf(h.marks), stretchOf(h.over), stretchOf(h.swept)}
}

func (h handout) overwrite() {
	overwrite(h.marks, mark("?", -7, -8))
	overwrite(h.over, "?")
	overwrite(h.swept, "?")
}

// busy: a scene with marks, of which some have no visible cell.
func busy(t *testing.T) *scene {
	t.Helper()
	s := started(t)
	s.write(2, 2, 4, 3)
	s.mark("tail", 4, 7)
	return s
}

// What is handed out is written over and appended to: neither the next answers nor the view nor another answer has changed.
func TestP20_1Memory(t *testing.T) {
	s := busy(t)
	view := told(s.r)
	a, b := s.handout(), s.handout()
	was := shape(b)
	if len(a.marks) != 11 || len(a.over) != 11 || len(a.swept) != 3 {
		t.Fatalf("the scene is another one: %v", a)
	}
	list := append(a.stretches(), b.stretches()...)
	for i, x := range list {
		for _, y := range list[:i] {
			if x.meets(y) {
				t.Error("P20.1, rule 11: two lists share memory")
			}
		}
	}
	a.overwrite()
	if shape(b) != was || shape(s.handout()) != was {
		t.Errorf("P20.1, rule 11: what was written into one answer is seen in another")
	}
	if told(s.r) != view {
		t.Errorf("P20.1, rule 11: what was written into an answer is seen in the view")
	}
	s.agree("behind writing over all that was handed out")
	s.write(0, 3, 0, 2)
	b.overwrite()
	s.agree("behind a Follow, and writing over what was handed out ahead of it")
}

// Answers stay as they are when the book goes on.
func TestP20_1AnswersStay(t *testing.T) {
	s := busy(t)
	h := s.handout()
	one, _ := s.b.Mark("tail")
	was := shape(h)
	s.write(0, 3, 0, 2)
	s.put(s.r.Len(), hide(3, 2, 0, s.r.Total()))
	s.drop("0-1")
	s.mark("new", 0, 1)
	if shape(h) != was || one != mark("tail", 4, 7) {
		t.Errorf("P20.1, rule 11: an answer has changed with the book: %s, want %s", shape(h), was)
	}
	s.agree("the book that went on")
}

// What is handed in is neither changed nor kept.
func TestP20_1HandedIn(t *testing.T) {
	s := busy(t)
	for _, o := range []api.Op{hide(1, 9, 0, 1, 3, 7), show(0, 0, 2, 4), hide(1, 9, 0, 1, 3, 99), hide(1, 9, 4, 3)} {
		room := make([]api.Range, len(o.Ranges), len(o.Ranges)+4)
		copy(room, o.Ranges)
		overwrite(room[len(room):], api.Range{Lo: 5, Hi: 5})
		o.Ranges = room
		was := slices.Clone(room[:cap(room)])
		s.b.Follow(o)
		if !slices.Equal(room[:cap(room)], was) {
			t.Errorf("P20.1, rule 11: Follow has changed what was handed in: %v, was %v", room[:cap(room)], was)
		}
		overwrite(room, api.Range{Lo: -1, Hi: 99})
		s.agree("behind writing over what was handed in")
	}
	text := []byte("xyz")
	s.put(s.r.Len(), ins(4, 1, 2, string(text)))
	s.agree("behind an Ins")
}

// Names and texts too are in memory of their own.
func TestP20_1Strings(t *testing.T) {
	s := busy(t)
	long := strings.Repeat("abc-", 1000)
	name := long[400:420]
	s.mark(name, 0, 2)
	m, e := s.b.Mark(name)
	same(t, "P20.6: Mark", m, e, mark(name, 0, 2), api.OK)
	again, _ := s.b.Mark(name)
	over, _ := s.b.Over(0, 1)
	list := s.b.Marks()
	got := []string{long, m.Name, again.Name}
	for _, x := range over {
		got = append(got, x)
	}
	for _, x := range list {
		got = append(got, x.Name)
	}
	for range 2 {
		text, _ := s.b.Text("tail", s.r)
		got = append(got, text)
	}
	got = append(got, s.r.Text())
	for i, x := range got {
		for _, y := range got[:i] {
			if bytesOf(x).meets(bytesOf(y)) {
				t.Errorf("rule 11: %.20q and %.20q share memory", x, y)
			}
		}
	}
}
