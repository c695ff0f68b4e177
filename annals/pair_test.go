package annals_test

import (
	"fmt"
	"math"
	"slices"
	"strings"
	"testing"

	"redraft/annals"
	"redraft/api"
	"redraft/desk"
	"redraft/op"
)

func ins(client, number, at int, text string) api.Op {
	return api.Op{Head: api.Head{ID: api.ID{client, number}, Kind: api.Ins}, At: at, Text: text}
}

func hide(client, number int, bounds ...int) api.Op {
	o := api.Op{Head: api.Head{ID: api.ID{client, number}, Kind: api.Hide}}
	for i := 0; i < len(bounds); i += 2 {
		o.Ranges = append(o.Ranges, api.Range{Lo: bounds[i], Hi: bounds[i+1]})
	}
	return o
}

func off(client, number int, target api.ID) api.Op {
	return api.Op{Head: api.Head{ID: api.ID{client, number}, Kind: api.Status}, Target: target}
}

func on(client, number int, target api.ID) api.Op {
	o := off(client, number, target)
	o.On = true
	return o
}

// scene: a view, and the order that it holds.
type scene struct {
	t *testing.T
	r *desk.Replica
	w order
}

// viewOf: of these commands, each put at the end.
func viewOf(t *testing.T, ops ...api.Op) *scene {
	t.Helper()
	s := &scene{t: t, r: desk.NewReplica()}
	for _, o := range ops {
		s.put(len(s.w), o)
	}
	return s
}

// put: into both; it must be accepted.
func (s *scene) put(i int, o api.Op) {
	s.t.Helper()
	if _, err := s.r.Put(i, o); err != nil {
		s.t.Fatalf("Put(%d, %v): %v", i, o, err)
	}
	s.w = slices.Insert(slices.Clone(s.w), i, meaning(s.w[:i].row(), o))
}

// last: the number of the client's last command.
func (s *scene) last(client int) int {
	n := 0
	for _, m := range s.w {
		if m.ID[0] == client {
			n = max(n, m.ID[1])
		}
	}
	return n
}

// orderOf: what a view holds, by names, of the commands as it tells them.
func orderOf(t *testing.T, r *desk.Replica) order {
	t.Helper()
	ops, err := r.Ops(0, r.Len())
	if err != nil {
		t.Fatal(err)
	}
	var w order
	for _, o := range ops {
		w = append(w, meaning(w.row(), o))
	}
	return w
}

// told: all that a view tells.
func told(r *desk.Replica) string {
	ops, _ := r.Ops(0, r.Len())
	out := fmt.Sprintf("%q %d %d %#v %v", r.Text(), r.Shown(), r.Total(), r.Runs(), ops)
	for i, o := range ops {
		x, _ := r.Entry(i)
		at, _ := r.Find(o.ID)
		rest, err := r.Erase(o.ID)
		out += fmt.Sprint(x, at, rest, api.Code(err))
	}
	return out
}

// shape: a value, written out. A list without elements is one and the same, nil or not.
func shape(v any) string {
	return strings.ReplaceAll(fmt.Sprintf("%#v", v), "(nil)", "{}")
}

// same: an answer is what the oracle answers.
func same(t *testing.T, what string, got any, e api.Errno, want any, wantE api.Errno) {
	t.Helper()
	if shape(got) != shape(want) || e != wantE {
		t.Errorf("%s = %s, %d, want %s, %d", what, shape(got), int(e), shape(want), int(wantE))
	}
}

// far: numbers that are nobody's place.
func far() []int {
	return []int{math.MinInt, math.MinInt + 1, -1 << 32, -2, -1, 1 << 20, 1<<31 - 1, 1 << 31, 1 << 32, math.MaxInt - 1, math.MaxInt}
}

// places: all from 0 to n + 1, and the far ones.
func places(n int) []int {
	list := far()
	for p := range n + 2 {
		list = append(list, p)
	}
	return list
}

// agree: every call, at all places, beside the oracle; and the view is the same behind them.
func agree(t *testing.T, what string, r *desk.Replica, w order) {
	t.Helper()
	was := told(r)
	m := modelOf(w)
	agreeNow(t, what, r, m)
	agreePast(t, what, r, m)
	agreeTexts(t, what, r, m)
	laws(t, what, r)
	if got := told(r); got != was {
		t.Errorf("P18.1: %s: asking has changed the view: %s, want %s", what, got, was)
	}
}

// agreeNow: what is told of the view as it stands.
func agreeNow(t *testing.T, what string, r *desk.Replica, m model) {
	t.Helper()
	blame, e := annals.Blame(r)
	same(t, "P18.2: "+what+": Blame", blame, e, m.blame(), api.OK)
	for _, p := range places(len(m.now())) {
		id, e := annals.Author(r, p)
		want, wantE := m.author(p)
		same(t, fmt.Sprintf("P18.3: %s: Author(%d)", what, p), id, e, want, wantE)
		list, e := annals.Hiders(r, p)
		hiders, wantE := m.hiders(p)
		same(t, fmt.Sprintf("P18.4: %s: Hiders(%d)", what, p), list, e, hiders, wantE)
	}
	tallies, e := annals.Tallies(r)
	same(t, "P18.7: "+what+": Tallies", tallies, e, m.tallies(), api.OK)
}

// agreePast: what is told of its prefixes.
func agreePast(t *testing.T, what string, r *desk.Replica, m model) {
	t.Helper()
	for _, k := range places(len(m.w)) {
		text, e := annals.At(r, k)
		want, wantE := m.at(k)
		same(t, fmt.Sprintf("P18.5: %s: At(%d)", what, k), text, e, want, wantE)
	}
	for lo := -1; lo <= len(m.w)+1; lo++ {
		for hi := -1; hi <= len(m.w)+1; hi++ {
			list, e := annals.Changes(r, lo, hi)
			want, wantE := m.changes(lo, hi)
			same(t, fmt.Sprintf("P18.6: %s: Changes(%d, %d)", what, lo, hi), list, e, want, wantE)
		}
	}
	n := 0
	for k, text := range annals.Replay(r) {
		if k != n || k > len(m.w) || text != m.text(k) {
			t.Errorf("P18.8: %s: Replay gives %d, %q", what, k, text)
		}
		n++
	}
	if n != len(m.w)+1 {
		t.Errorf("P18.8: %s: Replay gives %d texts of %d commands", what, n, len(m.w))
	}
}

// agreeTexts: First of every short piece of every text that there has been, and of some that there never was.
func agreeTexts(t *testing.T, what string, r *desk.Replica, m model) {
	t.Helper()
	asked := map[string]int{"": 1, "?": 1, "no such text": 1}
	for k := range m.behind {
		whole := []rune(m.text(k))
		asked[string(whole)] = 1
		for lo := range whole {
			for hi := lo + 1; hi <= min(lo+3, len(whole)); hi++ {
				asked[string(whole[lo:hi])] = 1
			}
		}
	}
	for text := range asked {
		k, e := annals.First(r, text)
		want, wantE := m.first(text)
		same(t, fmt.Sprintf("P18.9: %s: First(%q)", what, text), k, e, want, wantE)
	}
	for _, c := range noTexts() {
		k, e := annals.First(r, c.text)
		same(t, fmt.Sprintf("P18.9: %s: First(%q)", what, c.text), k, e, 0, c.e)
	}
}

type noText struct {
	text string
	e    api.Errno
}

func noTexts() []noText {
	return []noText{
		{"\xff", api.ErrUtf8}, {"a\x80", api.ErrUtf8}, {"\xc3", api.ErrUtf8}, {"\xed\xa0\x80", api.ErrUtf8}, {"\xc0\x80", api.ErrUtf8},
		{"\x00", api.ErrRune}, {"a\x00", api.ErrRune},
	}
}

// behind: chapter 18's words: the view behind k commands is a Replica into which they alone are put, each at its end, in the form in which Ops(0, k) tells them.
func behind(t *testing.T, r *desk.Replica, k int) *desk.Replica {
	t.Helper()
	ops, err := r.Ops(0, k)
	if err != nil {
		t.Fatal(err)
	}
	part := desk.NewReplica()
	for i, o := range ops {
		if _, err := part.Put(i, op.Clone(o)); err != nil {
			t.Fatal(err)
		}
	}
	return part
}
