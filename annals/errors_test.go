package annals_test

import (
	"fmt"
	"math"
	"testing"

	"redraft/annals"
	"redraft/api"
	"redraft/desk"
	"redraft/utext"
)

// TestP18_1Nil: no view: ErrHandle, whatever else is wrong.
func TestP18_1Nil(t *testing.T) {
	blame, e := annals.Blame(nil)
	same(t, "P18.1: Blame(nil)", blame, e, []api.Piece{}, api.ErrHandle)
	tallies, e := annals.Tallies(nil)
	same(t, "P18.1: Tallies(nil)", tallies, e, []api.Tally{}, api.ErrHandle)
	for _, p := range places(1) {
		id, e := annals.Author(nil, p)
		same(t, fmt.Sprintf("P18.1: Author(nil, %d)", p), id, e, api.ID{}, api.ErrHandle)
		list, e := annals.Hiders(nil, p)
		same(t, fmt.Sprintf("P18.1: Hiders(nil, %d)", p), list, e, []api.ID{}, api.ErrHandle)
		text, e := annals.At(nil, p)
		same(t, fmt.Sprintf("P18.1: At(nil, %d)", p), text, e, "", api.ErrHandle)
		for _, hi := range places(1) {
			changes, e := annals.Changes(nil, p, hi)
			same(t, fmt.Sprintf("P18.1: Changes(nil, %d, %d)", p, hi), changes, e, []api.Change{}, api.ErrHandle)
		}
	}
	for _, text := range []string{"", "a", "\xff", "\x00"} {
		k, e := annals.First(nil, text)
		same(t, fmt.Sprintf("P18.1: First(nil, %q)", text), k, e, 0, api.ErrHandle)
	}
	all := annals.Replay(nil)
	if all == nil {
		t.Fatal("P18.1: Replay(nil) is nil")
	}
	for range 2 {
		for k, text := range all {
			t.Errorf("P18.1: Replay(nil) gives %d, %q", k, text)
		}
	}
}

func TestP18_1Empty(t *testing.T) {
	r := desk.NewReplica()
	agree(t, "an empty view", r, nil)
	blame, e := annals.Blame(r)
	same(t, "P18.2: Blame of nothing", blame, e, []api.Piece{}, api.OK)
	id, e := annals.Author(r, 0)
	same(t, "P18.3: Author of nothing", id, e, api.ID{}, api.ErrPlace)
	list, e := annals.Hiders(r, 0)
	same(t, "P18.4: Hiders of nothing", list, e, []api.ID{}, api.ErrPlace)
	text, e := annals.At(r, 0)
	same(t, "P18.5: At of nothing", text, e, "", api.OK)
	changes, e := annals.Changes(r, 0, 0)
	same(t, "P18.6: Changes of nothing", changes, e, []api.Change{}, api.OK)
	tallies, e := annals.Tallies(r)
	same(t, "P18.7: Tallies of nothing", tallies, e, []api.Tally{}, api.OK)
	k, e := annals.First(r, "")
	same(t, "P18.9: First of the empty text in nothing", k, e, 0, api.OK)
	k, e = annals.First(r, "a")
	same(t, "P18.9: First of a text in nothing", k, e, 0, api.ErrUnknown)
	n := 0
	for k, text := range annals.Replay(r) {
		n++
		same(t, "P18.8: Replay of nothing", fmt.Sprint(k, text), api.OK, "0", api.OK)
	}
	if n != 1 {
		t.Errorf("P18.8: Replay of nothing gives %d texts", n)
	}
}

// Two cells of three are visible, and there are five commands: the three bounds lie apart.
func TestBounds(t *testing.T) {
	r := viewOf(t, ins(1, 1, 0, "abc"), hide(1, 2, 1, 2), off(1, 3, api.ID{1, 2}), on(1, 4, api.ID{1, 2}), on(2, 1, api.ID{1, 1})).r
	if r.Shown() != 2 || r.Total() != 3 || r.Len() != 5 {
		t.Fatal("the view is another one")
	}
	for _, p := range places(9) {
		id, e := annals.Author(r, p)
		holds(t, fmt.Sprintf("P18.3: Author(%d)", p), e, id == api.ID{}, 0 <= p && p < 2)
		list, e := annals.Hiders(r, p)
		holds(t, fmt.Sprintf("P18.4: Hiders(%d)", p), e, len(list) == 0, p == 1)
		_, e = annals.Hiders(r, p)
		if (e == api.OK) != (0 <= p && p < 3) {
			t.Errorf("P18.4: Hiders(%d): %d", p, int(e))
		}
		text, e := annals.At(r, p)
		if (e == api.OK) != (0 <= p && p <= 5) || e != api.OK && (e != api.ErrPlace || text != "") {
			t.Errorf("P18.5: At(%d) = %q, %d", p, text, int(e))
		}
		for _, hi := range places(9) {
			changes, e := annals.Changes(r, p, hi)
			if (e == api.OK) != (0 <= p && p <= hi && hi <= 5) || e != api.OK && (e != api.ErrPlace || len(changes) > 0) {
				t.Errorf("P18.6: Changes(%d, %d) = %v, %d", p, hi, changes, int(e))
			}
		}
	}
}

// holds: something is told just if it may be; where it may not, the error is ErrPlace or there is none and nothing to tell.
func holds(t *testing.T, what string, e api.Errno, nothing, may bool) {
	t.Helper()
	if nothing == may || e != api.OK && e != api.ErrPlace {
		t.Errorf("%s: error %d, nothing told: %v", what, int(e), nothing)
	}
}

// With an error of the text there is no look at the view: ErrUtf8 and ErrRune come ahead of ErrUnknown.
func TestP18_9Errors(t *testing.T) {
	s := viewOf(t, ins(1, 1, 0, "a\U0001f600b"))
	for _, r := range []*desk.Replica{s.r, desk.NewReplica()} {
		for _, c := range noTexts() {
			k, e := annals.First(r, c.text)
			same(t, fmt.Sprintf("P18.9: First(%q)", c.text), k, e, 0, c.e)
		}
	}
	// Bytes that stand in the text, but are no runes of it.
	for _, part := range []string{"\xf0", "\xf0\x9f", "\x9f\x98\x80", "\x80", "a\xf0", "\x80b"} {
		k, e := annals.First(s.r, part)
		same(t, fmt.Sprintf("P18.9: First(%q)", part), k, e, 0, api.ErrUtf8)
	}
	for _, two := range []string{"a\x00\xff", "\xff\x00"} {
		_, _, want := utext.Check(two)
		k, e := annals.First(s.r, two)
		same(t, fmt.Sprintf("P18.9: First(%q)", two), k, e, 0, want)
	}
	k, e := annals.First(s.r, "\U0001f600")
	same(t, "P18.9: First of a rune of four bytes", k, e, 1, api.OK)
}

// A refused call leaves the view as it is, and so does one that is accepted.
func TestP18_1Unchanged(t *testing.T) {
	r := example(t).r
	was := told(r)
	for _, p := range []int{math.MinInt, -1, 0, 1, 5, 6, math.MaxInt} {
		annals.Author(r, p)
		annals.Hiders(r, p)
		annals.At(r, p)
		annals.Changes(r, p, p)
		annals.Changes(r, 0, p)
		annals.Blame(r)
		annals.Tallies(r)
		annals.First(r, "\xff")
		annals.First(r, "c")
		for range annals.Replay(r) {
		}
		if told(r) != was {
			t.Fatalf("P18.1: a call with %d has changed the view: %s", p, told(r))
		}
	}
}
