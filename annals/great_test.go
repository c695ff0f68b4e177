package annals_test

import (
	"fmt"
	"strings"
	"testing"

	"redraft/annals"
	"redraft/api"
	"redraft/desk"
)

// numbered: the id of the n-th command, from 0 on, of a view that has as many as there may be.
func numbered(n int) (client, number int) { return 1 + n/api.MaxOps, 1 + n%api.MaxOps }

func mustPut(t *testing.T, r *desk.Replica, o api.Op) {
	t.Helper()
	if _, err := r.Put(r.Len(), o); err != nil {
		t.Fatalf("Put(%v): %v", o.ID, err)
	}
}

// As many commands as a view may have, each of the last ones about the cells of the first.
func TestAllCommands(t *testing.T) {
	r := desk.NewReplica()
	for n := range api.MaxClients * api.MaxOps {
		client, number := numbered(n)
		switch {
		case n < api.MaxOps:
			mustPut(t, r, ins(client, number, n, string(rune('a'+n%26))))
		case n < 2*api.MaxOps:
			mustPut(t, r, hide(client, number, n-api.MaxOps, n-api.MaxOps+1))
		default: // all Hides off, all Ins off, all Hides on, all Ins on, all Hides off; and all Ins on, which they are
			o := off(client, number, api.ID{1 + client%2, number})
			o.On = client == 5 || client == 6 || client == 8
			mustPut(t, r, o)
		}
	}
	if r.Len() != 8192 {
		t.Fatal("the view is another one")
	}
	text, e := annals.At(r, api.MaxOps)
	same(t, "P18.5: At(1024)", len(text), e, 1024, api.OK)
	n := 0
	for k, text := range annals.Replay(r) {
		if k%1024 == 0 {
			want, _ := annals.At(r, k)
			same(t, fmt.Sprintf("P18.8: Replay at %d", k), text, api.OK, want, api.OK)
			same(t, fmt.Sprintf("P18.5: At(%d)", k), want, api.OK, behind(t, r, k).Text(), api.OK)
		}
		n++
	}
	if n != 8193 {
		t.Errorf("P18.8: Replay gives %d texts", n)
	}
	sums(t, "all commands", r)
	list, e := annals.Changes(r, 0, r.Len())
	same(t, "P18.6: Changes(0, 8192)", list, e, []api.Change{come(text)}, api.OK)
	list, e = annals.Changes(r, api.MaxOps, 2*api.MaxOps)
	same(t, "P18.6: Changes(1024, 2048)", list, e, []api.Change{gone(text)}, api.OK)
	first, e := annals.First(r, text)
	same(t, "P18.9: First of the whole text", first, e, 7*api.MaxOps, api.OK)
}

// As many cells as a view may have, and a Hide of as many ranges.
func TestAllCells(t *testing.T) {
	r := desk.NewReplica()
	text := strings.Repeat("aé", api.MaxText/2)
	n := 0
	for ; r.Total() < api.MaxPlace; n++ {
		client, number := numbered(n)
		mustPut(t, r, ins(client, number, r.Total(), text))
	}
	var comb []int
	for q := range api.MaxRanges {
		comb = append(comb, 32*q+31, 32*q+32)
	}
	client, number := numbered(n)
	mustPut(t, r, hide(client, number, comb...))
	last := r.Total() - 1
	list, e := annals.Hiders(r, last)
	same(t, "P18.4: Hiders of the last cell", list, e, []api.ID{{client, number}}, api.OK)
	list, e = annals.Hiders(r, last+1)
	same(t, "P18.4: Hiders behind the last cell", list, e, []api.ID{}, api.ErrPlace)
	id, e := annals.Author(r, r.Shown()-1)
	same(t, "P18.3: Author of the last visible cell", id, e, api.ID{4, api.MaxOps}, api.OK)
	id, e = annals.Author(r, r.Shown())
	same(t, "P18.3: Author behind the last visible cell", id, e, api.ID{}, api.ErrPlace)
	changes, e := annals.Changes(r, n, n+1)
	if len(changes) != 2*api.MaxRanges || e != api.OK || changes[1] != gone("é") || changes[0] != both(strings.Repeat("aé", 15)+"a") {
		t.Errorf("P18.6: %d changes, %d", len(changes), int(e))
	}
	blame, e := annals.Blame(r)
	if len(blame) != n || e != api.OK || len([]rune(blame[0].Text)) != 248 {
		t.Errorf("P18.2: %d pieces, %d", len(blame), int(e))
	}
	whole, e := annals.At(r, n+1)
	if whole != r.Text() || e != api.OK {
		t.Errorf("P18.5: At of all is not the text; %d", int(e))
	}
	tallies, e := annals.Tallies(r)
	if len(tallies) != client || e != api.OK || tallies[client-1] != tally(5, 1, 0, 0, 0, api.MaxRanges) {
		t.Errorf("P18.7: Tallies = %v, %d", tallies, int(e))
	}
	sums(t, "all cells", r)
}
