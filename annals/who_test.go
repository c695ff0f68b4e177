package annals_test

import (
	"fmt"
	"testing"

	"redraft/annals"
	"redraft/api"
)

func piece(client, number int, text string) api.Piece {
	return api.Piece{ID: api.ID{client, number}, Text: text}
}

func TestP18_2Blame(t *testing.T) {
	for _, c := range []struct {
		what string
		ops  []api.Op
		want []api.Piece
	}{
		{"one insert", []api.Op{ins(1, 1, 0, "abc")}, []api.Piece{piece(1, 1, "abc")}},
		{"a tombstone of its own", []api.Op{ins(1, 1, 0, "abc"), hide(1, 2, 1, 2)}, []api.Piece{piece(1, 1, "ac")}},
		{"another's tombstones", []api.Op{ins(1, 1, 0, "ab"), ins(2, 1, 1, "xyz"), hide(1, 2, 1, 4)}, []api.Piece{piece(1, 1, "ab")}},
		{"another's insert that is off", []api.Op{ins(1, 1, 0, "ab"), ins(2, 1, 1, "xyz"), off(1, 2, api.ID{2, 1})}, []api.Piece{piece(1, 1, "ab")}},
		{"another's cells", []api.Op{ins(1, 1, 0, "ab"), ins(2, 1, 1, "xyz")}, []api.Piece{piece(1, 1, "a"), piece(2, 1, "xyz"), piece(1, 1, "b")}},
		{"one of another's cells", []api.Op{ins(1, 1, 0, "ab"), ins(2, 1, 1, "xyz"), hide(1, 2, 1, 2, 3, 4)}, []api.Piece{piece(1, 1, "a"), piece(2, 1, "y"), piece(1, 1, "b")}},
		{"two ids of one client", []api.Op{ins(1, 1, 0, "ab"), ins(1, 2, 2, "cd")}, []api.Piece{piece(1, 1, "ab"), piece(1, 2, "cd")}},
		{"two clients' ids of one number", []api.Op{ins(1, 1, 0, "ab"), ins(2, 1, 2, "cd")}, []api.Piece{piece(1, 1, "ab"), piece(2, 1, "cd")}},
		{"nothing visible", []api.Op{ins(1, 1, 0, "ab"), hide(2, 1, 0, 2)}, nil},
		{"the insert off", []api.Op{ins(1, 1, 0, "ab"), off(2, 1, api.ID{1, 1})}, nil},
		{"off and on again", []api.Op{ins(1, 1, 0, "ab"), off(2, 1, api.ID{1, 1}), on(2, 2, api.ID{1, 1})}, []api.Piece{piece(1, 1, "ab")}},
		{"tombstones at both ends", []api.Op{ins(1, 1, 0, "abcd"), hide(2, 1, 0, 1, 3, 4)}, []api.Piece{piece(1, 1, "bc")}},
		{"runes of all widths", []api.Op{ins(1, 1, 0, "aé€\U0001f600"), ins(2, 1, 2, "ß"), hide(1, 2, 1, 2)}, []api.Piece{piece(1, 1, "a"), piece(2, 1, "ß"), piece(1, 1, "€\U0001f600")}},
		{"ends of lines", []api.Op{ins(1, 1, 0, "a\nb"), ins(2, 1, 1, "\n")}, []api.Piece{piece(1, 1, "a"), piece(2, 1, "\n"), piece(1, 1, "\nb")}},
	} {
		s := viewOf(t, c.ops...)
		list, e := annals.Blame(s.r)
		same(t, "P18.2: "+c.what, list, e, c.want, api.OK)
		agree(t, c.what, s.r, s.w)
	}
}

func TestP18_4Hiders(t *testing.T) {
	a := api.ID{1, 1}
	for _, c := range []struct {
		what string
		ops  []api.Op
		want []api.ID // of the cell at place 1
	}{
		{"visible", []api.Op{ins(1, 1, 0, "abc"), hide(2, 1, 0, 1, 2, 3)}, nil},
		{"by one Hide", []api.Op{ins(1, 1, 0, "abc"), hide(2, 1, 1, 2)}, []api.ID{{2, 1}}},
		{"by a Hide that is off", []api.Op{ins(1, 1, 0, "abc"), hide(2, 1, 1, 2), off(1, 2, api.ID{2, 1})}, nil},
		{"by a Hide that is on again", []api.Op{ins(1, 1, 0, "abc"), hide(2, 1, 1, 2), off(1, 2, api.ID{2, 1}), on(1, 3, api.ID{2, 1})}, []api.ID{{2, 1}}},
		{"by its own Ins", []api.Op{ins(1, 1, 0, "abc"), off(2, 1, a)}, []api.ID{a}},
		{"by its own Ins, turned off twice", []api.Op{ins(1, 1, 0, "abc"), off(2, 1, a), off(2, 2, a)}, []api.ID{a}},
		{"by its own Ins, off, on and off", []api.Op{ins(1, 1, 0, "abc"), off(2, 1, a), on(2, 2, a), off(3, 1, a)}, []api.ID{a}},
		{"Ins on again", []api.Op{ins(1, 1, 0, "abc"), off(2, 1, a), on(2, 2, a)}, nil},
		{"by several, in their order, not by their ids", []api.Op{ins(1, 1, 0, "abc"), hide(3, 1, 1, 3), hide(2, 1, 0, 2), hide(1, 2, 1, 2)}, []api.ID{{3, 1}, {2, 1}, {1, 2}}},
		{"the Ins first, though it was turned off last", []api.Op{ins(4, 1, 0, "abc"), hide(3, 1, 1, 3), hide(2, 1, 0, 2), off(1, 1, api.ID{4, 1})}, []api.ID{{4, 1}, {3, 1}, {2, 1}}},
		{"several, one of them off", []api.Op{ins(1, 1, 0, "abc"), hide(3, 1, 1, 3), hide(2, 1, 0, 2), hide(1, 2, 1, 2), off(3, 2, api.ID{2, 1})}, []api.ID{{3, 1}, {1, 2}}},
		{"another's Ins is off", []api.Op{ins(1, 1, 0, "abc"), ins(2, 1, 3, "x"), off(1, 2, api.ID{2, 1})}, nil},
		{"of the cell that has come between", []api.Op{ins(1, 1, 0, "abc"), hide(2, 1, 0, 3), ins(3, 1, 1, "x")}, nil},
	} {
		s := viewOf(t, c.ops...)
		list, e := annals.Hiders(s.r, 1)
		same(t, "P18.4: "+c.what, list, e, c.want, api.OK)
		agree(t, c.what, s.r, s.w)
	}
}

func TestP18_3Author(t *testing.T) {
	s := viewOf(t, ins(1, 1, 0, "abc"), ins(2, 1, 1, "XY"), hide(3, 1, 0, 1, 2, 3), ins(1, 2, 5, "z"))
	same(t, "the text", s.r.Text(), api.OK, "Xbcz", api.OK)
	for p, want := range []api.ID{{2, 1}, {1, 1}, {1, 1}, {1, 2}} {
		id, e := annals.Author(s.r, p)
		same(t, fmt.Sprintf("P18.3: Author(%d)", p), id, e, want, api.OK)
	}
	agree(t, "Author", s.r, s.w)
	hidden := viewOf(t, ins(1, 1, 0, "abc"), hide(2, 1, 0, 3))
	id, e := annals.Author(hidden.r, 0)
	same(t, "P18.3: Author(0) where nothing is visible", id, e, api.ID{}, api.ErrPlace)
}

// Commands that were put in ahead of others: the cells that they are about have moved since.
func TestPutAnywhere(t *testing.T) {
	s := viewOf(t, ins(1, 1, 0, "abc"), hide(1, 2, 1, 2), ins(1, 3, 3, "d"))
	for _, c := range []struct {
		i int
		o api.Op
	}{
		{0, ins(2, 1, 0, "XY")}, {2, ins(3, 1, 4, "q")}, {1, hide(2, 2, 0, 1)}, {4, off(3, 2, api.ID{1, 1})}, {7, on(3, 3, api.ID{1, 1})}, {3, off(2, 3, api.ID{2, 2})}, {5, hide(2, 4, 1, 3)}, {10, off(1, 4, api.ID{1, 2})},
	} {
		s.put(c.i, c.o)
		agree(t, fmt.Sprintf("Put(%d, %v)", c.i, c.o), s.r, s.w)
	}
	list, e := annals.Blame(s.r)
	want := modelOf(s.w).blame()
	same(t, "P18.2: Blame", list, e, want, api.OK)
	if len(want) < 2 {
		t.Errorf("the view is another one: %v", want)
	}
}
