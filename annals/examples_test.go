package annals_test

import (
	"fmt"
	"testing"

	"redraft/annals"
	"redraft/api"
	"redraft/desk"
)

// example: the chapter's view: cells a X Y b c, text XYc.
func example(t *testing.T) *scene {
	t.Helper()
	return viewOf(t, ins(1, 1, 0, "abc"), hide(1, 2, 1, 2), ins(2, 1, 1, "XY"), off(2, 2, api.ID{1, 2}), hide(2, 3, 0, 1, 3, 4))
}

func both(text string) api.Change { return api.Change{Text: text, Was: true, Is: true} }
func come(text string) api.Change { return api.Change{Text: text, Is: true} }
func gone(text string) api.Change { return api.Change{Text: text, Was: true} }

func exampleTexts() []string { return []string{"", "abc", "ac", "aXYc", "aXYbc", "XYc"} }

func TestExampleWho(t *testing.T) {
	r := example(t).r
	same(t, "the example's text", r.Text(), api.OK, "XYc", api.OK)
	blame, e := annals.Blame(r)
	same(t, "P18.2: Blame", blame, e, []api.Piece{{ID: api.ID{2, 1}, Text: "XY"}, {ID: api.ID{1, 1}, Text: "c"}}, api.OK)
	for p, want := range []api.ID{{2, 1}, {2, 1}, {1, 1}} {
		id, e := annals.Author(r, p)
		same(t, fmt.Sprintf("P18.3: Author(%d)", p), id, e, want, api.OK)
	}
	id, e := annals.Author(r, 3)
	same(t, "P18.3: Author(3)", id, e, api.ID{}, api.ErrPlace)
	for at, want := range [][]api.ID{{{2, 3}}, {}, {}, {{2, 3}}, {}} {
		list, e := annals.Hiders(r, at)
		same(t, fmt.Sprintf("P18.4: Hiders(%d)", at), list, e, want, api.OK)
	}
	list, e := annals.Hiders(r, 5)
	same(t, "P18.4: Hiders(5)", list, e, []api.ID{}, api.ErrPlace)
}

func TestExampleAt(t *testing.T) {
	r := example(t).r
	for k, want := range exampleTexts() {
		text, e := annals.At(r, k)
		same(t, fmt.Sprintf("P18.5: At(%d)", k), text, e, want, api.OK)
	}
	text, e := annals.At(r, 6)
	same(t, "P18.5: At(6)", text, e, "", api.ErrPlace)
}

func TestExampleChanges(t *testing.T) {
	r := example(t).r
	for _, c := range []struct {
		lo, hi int
		want   []api.Change
		e      api.Errno
	}{
		{1, 3, []api.Change{both("a"), come("XY"), gone("b"), both("c")}, api.OK},
		{2, 4, []api.Change{both("a"), come("XYb"), both("c")}, api.OK},
		{0, 2, []api.Change{come("ac")}, api.OK},
		{4, 5, []api.Change{gone("a"), both("XY"), gone("b"), both("c")}, api.OK},
		{3, 2, nil, api.ErrPlace},
	} {
		list, e := annals.Changes(r, c.lo, c.hi)
		same(t, fmt.Sprintf("P18.6: Changes(%d, %d)", c.lo, c.hi), list, e, c.want, c.e)
	}
}

func TestExampleTallies(t *testing.T) {
	list, e := annals.Tallies(example(t).r)
	same(t, "P18.7: Tallies", list, e, []api.Tally{
		{Client: 1, Made: 2, Cells: 3, Visible: 1, Off: 1, Covers: 0},
		{Client: 2, Made: 3, Cells: 2, Visible: 2, Off: 0, Covers: 2},
	}, api.OK)
}

func TestExampleReplay(t *testing.T) {
	var got []string
	for k, text := range annals.Replay(example(t).r) {
		if k != len(got) {
			t.Errorf("P18.8: Replay gives number %d as its %d-th", k, len(got))
		}
		got = append(got, text)
	}
	same(t, "P18.8: Replay", got, api.OK, exampleTexts(), api.OK)
}

func TestExampleFirst(t *testing.T) {
	r := example(t).r
	for _, c := range []struct {
		text string
		k    int
		e    api.Errno
	}{
		{"c", 1, api.OK}, {"XY", 3, api.OK}, {"XYc", 5, api.OK}, {"", 0, api.OK}, {"ac", 0, api.ErrUnknown}, {"\xff", 0, api.ErrUtf8},
	} {
		k, e := annals.First(r, c.text)
		same(t, fmt.Sprintf("P18.9: First(%q)", c.text), k, e, c.k, c.e)
	}
}

func TestExampleBesideTheOracle(t *testing.T) {
	s := example(t)
	agree(t, "the example", s.r, s.w)
	agree(t, "the empty view", desk.NewReplica(), nil)
}
