package server_test

import (
	"fmt"
	"slices"
	"testing"

	"redraft/api"
	"redraft/xform"
)

// edits: every Ins of one text and every Hide of one range, of a client's command, where there are n cells.
func edits(id api.ID, n int, text string) []api.Op {
	var out []api.Op
	for at := 0; at <= n; at++ {
		out = append(out, api.Op{Head: api.Head{ID: id, Kind: api.Ins}, At: at, Text: text})
	}
	for lo := range n {
		for hi := lo + 1; hi <= n; hi++ {
			out = append(out, api.Op{Head: api.Head{ID: id, Kind: api.Hide}, Ranges: []api.Range{{Lo: lo, Hi: hi}}})
		}
	}
	return out
}

func submitted(rev int, o api.Op) step {
	return handle(sealed(api.Msg{Code: api.Submit, Client: o.ID[0], Rev: rev, Op: o}))
}

// Two clients' commands at each place and range of three cells, and one of a third client that has seen neither, or one, or both: each is written as the named cells say, and as xform.Over says.
func TestP14_12AllPlaces(t *testing.T) {
	for _, a := range edits(api.ID{1, 2}, 3, "X") {
		for _, b := range edits(api.ID{2, 1}, 3, "YZ") {
			for _, c := range edits(api.ID{3, 1}, 3, "v") {
				x := pairAt(t, handle(sub(1, 0, `1.1 ins 0 "abc"`)), tick(), submitted(1, a), submitted(1, b), submitted(1, c), tick())
				log, err := x.ss[0].Log(0, 4)
				must(t, err)
				want, e := xform.Over(c, true, log[1:3]...)
				if e != api.OK || line(log[3]) != line(want) {
					t.Fatalf("P14.12: %s is written as %s, want %s", line(c), line(log[3]), line(want))
				}
			}
		}
	}
}

// Where an insert lands beside others at its place: behind the earlier ones, ahead of the cell that its author had at its right.
func TestP14_12SamePlace(t *testing.T) {
	for at, want := range []string{"123abc", "a123bc", "ab123c", "abc123"} {
		x := pairAt(t, handle(sub(1, 0, `1.1 ins 0 "abc"`)), tick())
		for c := 1; c <= 3; c++ {
			n := x.ss[0].Last(c) + 1
			x.is(handle(sub(c, 1, fmt.Sprintf(`%d.%d ins %d "%d"`, c, n, at, c))), api.OK)
		}
		x.is(tick(), api.OK)
		x.holds(4, 4, want)
	}
}

// What a command covers are the cells that its author knew: what came in between since is not covered; a Status is written as it was made.
func TestP14_12Covers(t *testing.T) {
	x := pairAt(t, handle(sub(1, 0, `1.1 ins 0 "abcd"`)), tick(), handle(sub(2, 1, `2.1 ins 2 "XY"`)), handle(sub(3, 1, `3.1 hide 0-4`)), handle(sub(1, 1, `1.2 off 1.1`)), tick())
	want := []string{`1.1 ins 0 "abcd"`, `2.1 ins 2 "XY"`, `3.1 hide 0-2,4-6`, `1.2 off 1.1`}
	if got := logOf(t, x.ss[0]); !slices.Equal(got, want) {
		t.Fatalf("P14.12: %q, want %q", got, want)
	}
	x.holds(4, 4, "XY")
}

// A base far behind: all that was written since lies ahead of the command, the not yet durable ones too.
func TestP14_12FarBehind(t *testing.T) {
	x := pairAt(t)
	for n := 1; n <= 20; n++ {
		x.is(handle(sub(1, n-1, fmt.Sprintf(`1.%d ins 0 "%c"`, n, 'a'+n-1))), api.OK)
		x.is(tick(), api.OK)
	}
	x.is(handle(sub(1, 20, `1.21 ins 20 "Z"`)), api.OK)
	x.is(handle(sub(2, 0, `2.1 ins 0 "!"`)), api.OK)
	x.is(handle(sub(3, 1, `3.1 hide 0-1`)), api.OK)
	x.is(tick(), api.OK)
	x.holds(23, 23, "tsrqponmlkjihgfedcbZ!")
}
