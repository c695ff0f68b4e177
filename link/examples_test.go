package link_test

import (
	"testing"

	"redraft/api"
	"redraft/link"
)

// The chapter's table; each row goes on from the one above it.
func TestExamples(t *testing.T) {
	for _, c := range [][2]int{{0, 4}, {10, 4}, {3, -1}, {3, 1048577}} {
		if n, e := link.New(c[0], c[1]); n != nil || e != api.ErrLimits {
			t.Fatalf("P16.2: New(%d, %d) = %v, %d", c[0], c[1], n, int(e))
		}
	}
	x := newPair(t, 3, 4)
	for _, c := range []struct {
		call call
		want string
	}{
		{send(packet(1, 0, "ab"), packet(2, 0, "c")), "number 0"},
		{send(), "number 2"},
		{send(packet(0, 1, "x"), packet(0, 3, "y")), "error 170"},
		{send(packet(0, 1, ""), packet(0, 1, "y"), packet(0, 2, "z")), "error 161"},
		{send(packet(0, 9, "p"), packet(0, 1, "q"), packet(0, 1, "r")), "error 170"},
		{double(0), "number 2"},
		{spoil(0, 2, 1), "error 12"},
		{spoil(0, 1, 0), "error 12"},
		{spoil(0, 1, 3), "done"},
		{spoil(0, 0, 1), "error 162"},
		{spoil(0, 9, 1), "error 12"},
		{double(0), "number 3"},
		{double(0), "error 161"},
		{double(7), "error 160"},
		{deliver(2), `{2 1>0 "ab" false}`},
		{deliver(2), "error 160"},
		{drop(1), "done"},
	} {
		x.says("the chapter's examples", c.call, c.want)
	}
	if got, want := told(x.n), `[{0 1>0 "aa" true} {3 1>0 "aa" true}] 2 4`; got != want {
		t.Fatalf("P16.8: %s, want %s", got, want)
	}
}
