package desk_test

import (
	"fmt"
	"math"
	"slices"
	"strings"
	"testing"

	"redraft/api"
	"redraft/desk"
	"redraft/op"
	"redraft/rope"
)

// view: a Replica, and the order that it must hold.
type view struct {
	t *testing.T
	r *desk.Replica
	w order
}

func newView(t *testing.T) *view { return &view{t: t, r: desk.NewReplica()} }

// put: into both, compared. The cells must change by the effect and by nothing else.
func (v *view) put(i int, o api.Op) api.Errno {
	v.t.Helper()
	was := v.r.Runs()
	e := v.w.putError(i, o)
	var want api.Op
	if e == api.OK {
		next := v.w.with(i, meaning(v.w.row(i), o))
		want = v.w.effect(next, i)
		v.w = next
	}
	got, err := v.r.Put(i, o)
	answers(v.t, err, "Put", i, e)
	made(v.t, fmt.Sprintf("P8.2: Put(%d, %v)", i, o), got, want)
	cells, _ := rope.From(was)
	if got.Kind != 0 {
		op.Apply(cells, got)
	}
	if !slices.Equal(v.r.Runs(), cells.Runs()) {
		v.t.Errorf("P8.2: Put(%d, %v) has made %v of %v, its effect is %v", i, o, v.r.Runs(), was, got)
	}
	return e
}

// must: put, and it must be accepted.
func (v *view) must(i int, o api.Op) {
	v.t.Helper()
	if e := v.put(i, o); e != api.OK {
		v.t.Fatalf("Put(%d, %v) = %d", i, o, int(e))
	}
}

// small: a view of seven commands of all kinds: cells a X Y b q c, text XYq.
func small(t *testing.T) *view {
	t.Helper()
	v := newView(t)
	v.must(0, ins(1, 1, 0, "abc"))
	v.must(1, hide(1, 2, 1, 2))
	v.must(1, ins(2, 1, 1, "XY"))
	v.must(1, ins(3, 1, 2, "q"))
	v.must(4, status(2, 2, api.ID{1, 1}, false))
	v.must(5, status(2, 3, api.ID{1, 1}, false))
	v.must(6, hide(3, 2, 0, 1))
	return v
}

func TestReplicaEmpty(t *testing.T) {
	a, b := desk.NewReplica(), desk.NewReplica()
	agree(t, a, nil, "NewReplica")
	a.Put(0, ins(1, 1, 0, "a"))
	agree(t, b, nil, "NewReplica, with another in use")
	agree(t, desk.NewReplica(), nil, "a later NewReplica")
}

func TestP8_2Effects(t *testing.T) {
	r := desk.NewReplica()
	for _, c := range []struct {
		i    int
		o    api.Op
		want api.Op
		text string
	}{
		{0, ins(1, 1, 0, "abc"), effect(api.Ins, 0, "abc"), "abc"},
		{1, hide(1, 2, 1, 2), effect(api.Hide, 0, "", 1, 2), "ac"},
		{1, ins(2, 1, 1, "XY"), effect(api.Ins, 1, "XY"), "aXYc"},
		{1, ins(3, 1, 2, "q"), effect(api.Ins, 4, "q"), "aXYqc"},
		{4, status(2, 2, api.ID{1, 1}, false), effect(api.Hide, 0, "", 0, 1, 3, 4, 5, 6), "XYq"},
		{5, status(2, 3, api.ID{1, 1}, false), api.Op{}, "XYq"},                      // it is off already
		{4, status(4, 1, api.ID{1, 1}, true), api.Op{}, "XYq"},                       // others on it stand behind
		{7, status(4, 2, api.ID{1, 2}, false), effect(api.Show, 0, "", 3, 4), "XYq"}, // b is hidden for another reason too
		{8, status(4, 3, api.ID{1, 1}, true), effect(api.Show, 0, "", 0, 1, 3, 4, 5, 6), "aXYbqc"},
		{2, hide(4, 4, 0, 4), effect(api.Hide, 0, "", 0, 1, 3, 6), "XY"},
		{10, status(4, 5, api.ID{4, 4}, false), effect(api.Show, 0, "", 0, 1, 3, 6), "aXYbqc"},
		{11, status(4, 6, api.ID{4, 4}, true), effect(api.Hide, 0, "", 0, 1, 3, 6), "XY"},
		{0, ins(5, 1, 0, "é\n"), effect(api.Ins, 0, "é\n"), "é\nXY"}, // ahead of the earliest, at its place
	} {
		got, err := r.Put(c.i, c.o)
		if err != nil {
			t.Fatalf("P8.2: Put(%d, %v): %v", c.i, c.o, err)
		}
		made(t, fmt.Sprintf("P8.2: Put(%d, %v)", c.i, c.o), got, c.want)
		if r.Text() != c.text {
			t.Errorf("P8.2: behind Put(%d, %v) the text is %q, want %q", c.i, c.o, r.Text(), c.text)
		}
	}
}

func TestP8_3Told(t *testing.T) {
	v := small(t)
	agree(t, v.r, v.w, "seven commands")
	want := []api.Run{{Text: "a", Hid: 2}, {Text: "XY", Hid: 0}, {Text: "b", Hid: 2}, {Text: "q", Hid: 0}, {Text: "c", Hid: 1}}
	if got := v.r.Runs(); !slices.Equal(got, want) {
		t.Errorf("P8.3: Runs = %v, want %v", got, want)
	}
	if v.r.Text() != "XYq" || v.r.Shown() != 3 || v.r.Total() != 6 || v.r.Len() != 7 {
		t.Errorf("P8.3: %q, %d, %d, %d", v.r.Text(), v.r.Shown(), v.r.Total(), v.r.Len())
	}
	left, err := v.r.Erase(api.ID{2, 1})
	if want := []api.Op{ins(1, 1, 0, "abc"), ins(3, 1, 2, "q"), hide(1, 2, 1, 2), status(2, 2, api.ID{1, 1}, false), status(2, 3, api.ID{1, 1}, false), hide(3, 2, 0, 1)}; err != nil || !slices.EqualFunc(left, want, op.Equal) {
		t.Errorf("P8.3: Erase = %v, %v, want %v", left, err, want)
	}
	for _, c := range [][2]int{{0, 0}, {7, 7}, {0, 7}, {2, 5}, {6, 7}} {
		got, err := v.r.Ops(c[0], c[1])
		if err != nil || !slices.EqualFunc(got, v.w.ops()[c[0]:c[1]], op.Equal) {
			t.Errorf("P8.3: Ops(%d, %d) = %v, %v", c[0], c[1], got, err)
		}
	}
}

// Each error of Put, alone: what op.Check and chapter 6 have against a command, in a view of seven.
func TestP8_1PutErrors(t *testing.T) {
	v := small(t)
	was := toldView(v.r)
	extra := ins(4, 1, 0, "z")
	extra.On = true
	for _, c := range []struct {
		i int
		o api.Op
		e api.Errno
	}{
		{-1, ins(4, 1, 0, "z"), api.ErrPlace}, {8, ins(4, 1, 0, "z"), api.ErrPlace}, {math.MinInt, ins(4, 1, 0, "z"), api.ErrPlace}, {math.MaxInt, ins(4, 1, 0, "z"), api.ErrPlace},
		{7, api.Op{Head: api.Head{ID: api.ID{4, 1}}}, api.ErrKind}, {7, ins(9, 1, 0, "z"), api.ErrID}, {7, ins(4, 1025, 0, "z"), api.ErrID}, {7, extra, api.ErrExtra},
		{7, ins(4, 1, 0, "\xff"), api.ErrUtf8}, {7, ins(4, 1, 0, "\x00"), api.ErrRune}, {7, ins(4, 1, 0, ""), api.ErrEmpty}, {7, ins(4, 1, 0, strings.Repeat("z", 257)), api.ErrLong},
		{7, ins(4, 1, 7, "z"), api.ErrPlace}, {1, ins(4, 1, 4, "z"), api.ErrPlace}, {7, hide(4, 1), api.ErrNone}, {7, hide(4, 1, 2, 2), api.ErrRange}, {7, hide(4, 1, 1, 2, 2, 3), api.ErrOrder}, {7, hide(4, 1, 0, 7), api.ErrPlace}, {1, hide(4, 1, 0, 4), api.ErrPlace},
		{7, status(4, 1, api.ID{4, 1}, true), api.ErrTarget}, {7, status(4, 1, api.ID{}, true), api.ErrTarget},
		{7, api.Op{Head: api.Head{ID: api.ID{4, 1}, Kind: api.Show}, Ranges: list(0, 1)}, api.ErrKind}, {7, ins(0, 0, 0, "z"), api.ErrID},
		{7, ins(3, 1, 0, "z"), api.ErrTwice}, {0, ins(3, 2, 0, "z"), api.ErrTwice}, {7, status(4, 1, api.ID{4, 2}, true), api.ErrUnknown}, {2, status(4, 1, api.ID{2, 1}, true), api.ErrUnknown}, {7, status(4, 1, api.ID{2, 2}, true), api.ErrTarget},
		// Two at once: the one that is named first.
		{8, ins(4, 1, 0, ""), api.ErrPlace}, {-1, api.Op{}, api.ErrPlace}, {7, ins(3, 1, 9, "z"), api.ErrPlace}, {7, status(2, 2, api.ID{5, 5}, true), api.ErrTwice}, {7, ins(0, 0, 9, ""), api.ErrEmpty},
	} {
		got, err := v.r.Put(c.i, c.o)
		answers(t, err, "Put", c.i, c.e)
		made(t, fmt.Sprintf("P8.1: Put(%d, %v)", c.i, c.o), got, api.Op{})
		if now := toldView(v.r); now != was {
			t.Fatalf("P8.1: Put(%d, %v), refused, has changed %s to %s", c.i, c.o, was, now)
		}
	}
	v.must(7, ins(4, 1, 6, "z"))
}

func TestP8_1QueryErrors(t *testing.T) {
	v := small(t)
	was := toldView(v.r)
	for _, i := range []int{-1, 7, 8, math.MinInt, math.MaxInt} {
		x, err := v.r.Entry(i)
		answers(t, err, "Entry", i, api.ErrPlace)
		if !sameEntry(x, api.Entry{}) {
			t.Errorf("P8.1: Entry(%d) = %v", i, x)
		}
	}
	for _, c := range [][2]int{{-1, 3}, {3, 2}, {0, 8}, {8, 8}, {7, 6}, {math.MinInt, math.MaxInt}, {math.MaxInt, math.MinInt}, {-1, -1}, {math.MinInt, 0}, {2, math.MaxInt}} {
		run, err := v.r.Ops(c[0], c[1])
		answers(t, err, "Ops", c[0], api.ErrPlace)
		if len(run) != 0 {
			t.Errorf("P8.1: Ops(%d, %d) = %v", c[0], c[1], run)
		}
	}
	for _, id := range []api.ID{{}, {1, 3}, {9, 9}, {4, 1}, {-1, math.MinInt}, {math.MaxInt, 1}} {
		n, err := v.r.Find(id)
		answers(t, err, "Find", 0, api.ErrUnknown)
		run, err2 := v.r.Erase(id)
		answers(t, err2, "Erase", 0, api.ErrUnknown)
		if n != 0 || len(run) != 0 {
			t.Errorf("P8.1: Find(%v) = %d, Erase = %v", id, n, run)
		}
	}
	for id, e := range map[api.ID]api.Errno{{2, 2}: api.ErrTarget, {1, 1}: api.ErrInside} {
		run, err := v.r.Erase(id)
		answers(t, err, "Erase", 0, e)
		if len(run) != 0 {
			t.Errorf("P8.1: Erase(%v) = %v", id, run)
		}
	}
	if now := toldView(v.r); now != was {
		t.Errorf("P8.1: refused calls have changed %s to %s", was, now)
	}
}

// full: a Replica with all commands that there can be, but for the last k.
func full(t *testing.T, k int) *desk.Replica {
	t.Helper()
	r := desk.NewReplica()
	for n := range api.MaxClients*api.MaxOps - k {
		id := api.ID{1 + n%api.MaxClients, 1 + n/api.MaxClients}
		o := status(id[0], id[1], api.ID{1, 1}, n%3 == 0)
		if n == 0 {
			o = ins(1, 1, 0, "full")
		}
		if _, err := r.Put(n, o); err != nil {
			t.Fatalf("P8.2: Put(%d, %v): %v", n, o, err)
		}
	}
	return r
}

func TestP8_2Full(t *testing.T) {
	r := full(t, 1)
	last := api.ID{api.MaxClients, api.MaxOps}
	_, err := r.Put(-1, api.Op{})
	answers(t, err, "Put", -1, api.ErrPlace) // there is room for one more, so it is asked what it is
	_, err = r.Put(0, ins(last[0], last[1], 1, "x"))
	answers(t, err, "Put", 0, api.ErrPlace)
	if _, err = r.Put(8191, hide(last[0], last[1], 0, 4)); err != nil || r.Len() != 8192 {
		t.Fatalf("P8.2: the last command: %v, Len %d", err, r.Len())
	}
	was := r.Runs()
	for _, i := range []int{-1, 0, 8191, 8192, 8193, math.MinInt, math.MaxInt} {
		for _, o := range []api.Op{{}, ins(1, 1, 0, "x"), ins(9, 9, 9, ""), hide(8, 1024, 0, 1), status(2, 1, api.ID{1, 1}, true)} {
			got, err := r.Put(i, o)
			answers(t, err, "Put", i, api.ErrOps)
			made(t, "P8.2: Put of one too many", got, api.Op{})
		}
	}
	if r.Len() != 8192 || !slices.Equal(r.Runs(), was) {
		t.Errorf("P8.1: Put, refused, has changed the view")
	}
	if _, err := r.Entry(8191); err != nil {
		t.Errorf("P8.3: Entry of the last one: %v", err)
	}
}

// pages: a view of n inserts of 256 runes, one behind the other.
func pages(t *testing.T, n int) *desk.Replica {
	t.Helper()
	r := desk.NewReplica()
	text := strings.Repeat("0123456789abcdef", 16)
	for k := range n {
		if _, err := r.Put(k, ins(1+k%8, 1+k/8, 256*k, text)); err != nil {
			t.Fatalf("P8.2: Put(%d): %v", k, err)
		}
	}
	return r
}

func TestP8_2Grow(t *testing.T) {
	r := pages(t, 4096)
	if r.Total() != api.MaxPlace {
		t.Fatalf("P8.3: Total = %d", r.Total())
	}
	for _, i := range []int{0, 4095, 4096} {
		_, err := r.Put(i, ins(1, 1024, 0, "x"))
		answers(t, err, "Put", i, api.ErrGrow)
	}
	if _, err := r.Put(4096, hide(1, 1024, 0, api.MaxPlace)); err != nil || r.Text() != "" || r.Total() != api.MaxPlace {
		t.Errorf("P8.2: a Hide of all cells: %v, %d runes are left", err, r.Shown())
	}
}

func TestP8_2Many(t *testing.T) {
	r := pages(t, 257)
	every := list(0, 2)
	for q := 3; len(every) < api.MaxRanges; q += 2 {
		every = append(every, api.Range{Lo: q, Hi: q + 1})
	}
	o := hide(1, 1024)
	o.Ranges = every
	if got, err := r.Put(257, o); err != nil || !slices.Equal(got.Ranges, every) {
		t.Fatalf("P8.2: a Hide of MaxRanges ranges: %v", err)
	}
	was := r.Runs()
	for _, i := range []int{1, 257, 258} {
		_, err := r.Put(i, ins(2, 1024, 1, "x"))
		answers(t, err, "Put", i, api.ErrMany)
	}
	if !slices.Equal(r.Runs(), was) || r.Len() != 258 {
		t.Errorf("P8.1: Put, refused, has changed the view")
	}
	if got, err := r.Put(0, ins(2, 1024, 0, "x")); err != nil || got.At != 0 {
		t.Errorf("P8.2: an Ins ahead of them: %v, %v", got, err)
	}
}
