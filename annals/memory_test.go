package annals_test

import (
	"testing"
	"unsafe"

	"redraft/annals"
	"redraft/api"
	"redraft/desk"
)

// overwrite: all of a list's memory, spare room too, and what an append writes.
func overwrite[T any](l []T, with T) {
	whole := l[:cap(l)]
	for i := range whole {
		whole[i] = with
	}
	_ = append(l, with, with)
}

// stretch: where a list lies in memory, spare room counted.
type stretch struct{ lo, hi uintptr }

func stretchOf[T any](l []T) stretch {
	var one T
	lo := uintptr(unsafe.Pointer(unsafe.SliceData(l)))
	return stretch{lo, lo + uintptr(cap(l))*unsafe.Sizeof(one)}
}

// handout: all lists that are told of a view.
type handout struct {
	blame   []api.Piece
	hiders  [][]api.ID
	changes [][]api.Change
	tallies []api.Tally
}

func handoutOf(r *desk.Replica) handout {
	var h handout
	h.blame, _ = annals.Blame(r)
	h.tallies, _ = annals.Tallies(r)
	for at := range r.Total() {
		list, _ := annals.Hiders(r, at)
		h.hiders = append(h.hiders, list)
	}
	for hi := range r.Len() + 1 {
		for lo := range hi + 1 {
			list, _ := annals.Changes(r, lo, hi)
			h.changes = append(h.changes, list)
		}
	}
	return h
}

func (h handout) stretches() []stretch {
	out := []stretch{stretchOf(h.blame), stretchOf(h.tallies)}
	for _, l := range h.hiders {
		out = append(out, stretchOf(l))
	}
	for _, l := range h.changes {
		out = append(out, stretchOf(l))
	}
	return out
}

func (h handout) overwrite() {
	overwrite(h.blame, api.Piece{ID: api.ID{-7, -8}, Text: "?"})
	overwrite(h.tallies, tally(-1, -2, -3, -4, -5, -6))
	for _, l := range h.hiders {
		overwrite(l, api.ID{-7, -8})
	}
	for _, l := range h.changes {
		overwrite(l, both("?"))
	}
}

// No two lists that are handed out share memory, asked once or twice; and nobody sees what is written into them.
func TestP18_1Memory(t *testing.T) {
	s := busy(t)
	was := told(s.r)
	all := annals.Replay(s.r)
	want := given(all)
	a, b := handoutOf(s.r), handoutOf(s.r)
	list := append(a.stretches(), b.stretches()...)
	for i, x := range list {
		for _, y := range list[:i] {
			if x.lo < x.hi && y.lo < y.hi && x.lo < y.hi && y.lo < x.hi {
				t.Fatal("rule 11: two lists share memory")
			}
		}
	}
	kept := shape(b)
	a.overwrite()
	if shape(b) != kept {
		t.Errorf("rule 11: what was written into one answer is seen in another")
	}
	if told(s.r) != was {
		t.Errorf("rule 11: what was written into an answer is seen in the view")
	}
	agree(t, "behind writing over all that was handed out", s.r, s.w)
	same(t, "P18.8: Replay, made ahead of it", given(all), api.OK, want, api.OK)
}

// Answers stay as they are when the view goes on.
func TestP18_1AnswersStay(t *testing.T) {
	s := busy(t)
	h := handoutOf(s.r)
	was := shape(h)
	s.put(0, ins(5, 1, 0, "more"))
	s.put(len(s.w), hide(5, 2, 0, s.r.Total()))
	s.put(len(s.w), off(5, 3, api.ID{1, 1}))
	if shape(h) != was {
		t.Errorf("rule 11: an answer has changed with the view: %s, want %s", shape(h), was)
	}
	agree(t, "the view that went on", s.r, s.w)
}

// A replay holds nothing that the Replica's own answers could change.
func TestP18_8Memory(t *testing.T) {
	s := busy(t)
	all := annals.Replay(s.r)
	want := given(all)
	for i := range s.r.Len() {
		x, _ := s.r.Entry(i)
		overwrite(x.Ranges, api.Range{Lo: -7, Hi: -8})
	}
	ops, _ := s.r.Ops(0, s.r.Len())
	for _, o := range ops {
		overwrite(o.Ranges, api.Range{Lo: -7, Hi: -8})
	}
	overwrite(ops, api.Op{At: -9})
	overwrite(s.r.Runs(), api.Run{Text: "?", Hid: -1})
	same(t, "rule 11: Replay", given(all), api.OK, want, api.OK)
}
