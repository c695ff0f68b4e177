package world_test

import (
	"fmt"
	"slices"
	"strconv"
	"strings"
	"testing"

	"redraft/api"
	"redraft/utext"
	"redraft/world"
)

// first: the chapter's examples 1 to 3.
func first(t *testing.T) *pair {
	t.Helper()
	x := newPair(t, room)
	x.is(join(1), ok)
	x.is(join(2), ok)
	x.is(ins(1, 0, "ab"), says(1, 2, `1.1 ins 0 "ab"`))
	x.is(view(1), says(2, 0, "ab"))
	x.is(tick(1), says(2, 2, ""))
	x.is(tick(2), says(1, 3, ""))
	x.is(deliver(0), comes(api.OK, 0, 1))
	x.is(view(0), ok)
	x.is(deliver(1), comes(api.OK, 0, 1))
	x.is(deliver(2), comes(api.OK, 0, 2))
	x.is(tick(0), says(2, 5, ""))
	x.is(deliver(4), comes(api.OK, 2, 0))
	x.is(view(2), says(0, 1, "ab"))
	x.is(deliver(4), fails(api.ErrPacket))
	return x
}

func TestChapterExamples(t *testing.T) {
	x := first(t)
	x.is(arm(1, 0), ok)
	x.is(ins(2, 2, "c"), says(1, 3, `2.1 ins 2 "c"`))
	x.is(tick(2), says(1, 6, ""))
	x.is(deliver(5), comes(api.ErrStopped, 0, 2))
	x.is(tick(0), fails(api.ErrStopped))
	x.is(view(0), says(0, 1, "ab"))
	x.is(boot(0, 0), says(1, 0, ""))
	if a := x.do(settle()); a.Code != api.OK {
		t.Fatalf("P17.4: %+v", a)
	}
	for n := range 3 {
		x.shows(n, "abc", []int{0, 2, 3}[n])
	}
}

// docExamples: of DOC.md's ten examples those that are made of a world's steps: scripts and what comes of them.
var docExamples = [][2]string{
	{`room 2 9 9
join 1
join 2
ins 1 0 "ab"
ins 2 0 "xy"
tick 1
tick 2
deliver 0
deliver 2
settle`, `0 0 0 ""
0 0 0 ""
0 1 2 "1.1 ins 0 \"ab\""
0 1 2 "2.1 ins 0 \"xy\""
0 2 2 ""
0 2 4 ""
0 0 1 ""
0 0 2 ""
0 2 0 ""
= 0 1 0 2 0 "abxy"
= 1 1 2 2 0 "abxy"
= 2 1 4 2 0 "abxy"`},
	{`room 2 9 9
join 1
join 2
ins 1 0 "ab"
ins 2 0 "xy"
tick 1
tick 2
deliver 0
deliver 2
settle
off 1 2.1
settle`, `0 0 0 ""
0 0 0 ""
0 1 2 "1.1 ins 0 \"ab\""
0 1 2 "2.1 ins 0 \"xy\""
0 2 2 ""
0 2 4 ""
0 0 1 ""
0 0 2 ""
0 2 0 ""
0 2 2 "1.2 off 2.1"
0 3 0 ""
= 0 1 0 3 0 "ab"
= 1 1 2 3 0 "ab"
= 2 1 2 3 0 "ab"`},
	{`room 2 9 9
join 1
join 2
ins 1 0 "ab"
ins 2 0 "xy"
tick 1
tick 2
deliver 0
deliver 2
settle
off 1 2.1
settle
on 2 2.1
settle`, `0 0 0 ""
0 0 0 ""
0 1 2 "1.1 ins 0 \"ab\""
0 1 2 "2.1 ins 0 \"xy\""
0 2 2 ""
0 2 4 ""
0 0 1 ""
0 0 2 ""
0 2 0 ""
0 2 2 "1.2 off 2.1"
0 3 0 ""
0 2 4 "2.2 on 2.1"
0 3 0 ""
= 0 1 0 4 0 "abxy"
= 1 1 2 4 0 "abxy"
= 2 1 4 4 0 "abxy"`},
	{`room 2 99 99
join 1
join 2
ins 1 0 "abc"
settle
del 2 1 1
ins 1 2 "X"
settle
undo 2
settle`, `0 0 0 ""
0 0 0 ""
0 1 3 "1.1 ins 0 \"abc\""
0 3 0 ""
0 1 1 "2.1 hide 1-2"
0 2 3 "1.2 ins 2 \"X\""
0 3 0 ""
0 2 2 "2.2 off 2.1"
0 3 0 ""
= 0 1 0 4 0 "abXc"
= 1 1 3 4 0 "abXc"
= 2 1 2 4 0 "abXc"`},
	{`room 1 9 9
join 1
ins 1 0 "a"
tick 1
deliver 0
arm 1 0
tick 0
view 0
boot 0 0
settle`, `0 0 0 ""
0 1 1 "1.1 ins 0 \"a\""
0 2 2 ""
0 0 1 ""
0 0 0 ""
140 0 0 ""
0 0 0 ""
0 0 0 ""
0 6 0 ""
= 0 1 0 1 0 "a"
= 1 1 1 1 0 "a"`},
	{`room 1 9 9
join 1
ins 1 0 "a"
tick 1
deliver 0
arm 1 99
tick 0
view 0
boot 0 0
settle`, `0 0 0 ""
0 1 1 "1.1 ins 0 \"a\""
0 2 2 ""
0 0 1 ""
0 0 0 ""
140 0 0 ""
0 0 0 ""
0 1 0 ""
0 2 0 ""
= 0 1 0 1 0 "a"
= 1 1 1 1 0 "a"`},
	{`room 1 9 9
join 1
ins 1 0 "a"
tick 1
copy 0
spoil 0 13 1
deliver 0
deliver 2
deliver 2
tick 0`, `0 0 0 ""
0 1 1 "1.1 ins 0 \"a\""
0 2 2 ""
0 2 0 ""
0 0 0 ""
93 0 1 ""
0 0 1 ""
160 0 0 ""
0 1 4 ""
= 0 1 0 1 0 "a"
= 1 1 1 0 1 "a"`},
	{`room 1 3 2
join 1
ins 1 0 "abcd"
ins 1 0 "ab"
ins 1 3 "c"
ins 1 0 "cd"
del 1 0 1
undo 1
ins 1 0 "\xff"`, `0 0 0 ""
81 0 0 ""
0 1 2 "1.1 ins 0 \"ab\""
12 0 0 ""
81 0 0 ""
0 2 0 "1.2 hide 0-1"
80 0 0 ""
10 0 0 ""
= 0 1 0 0 0 ""
= 1 1 0 0 2 "b"`},
}

// written: the step of a line. It reads what DOC.md's examples hold and no more.
func written(t *testing.T, l string) api.Step {
	t.Helper()
	head, quoted, _ := strings.Cut(l, ` "`)
	parts := strings.Split(head, " ")
	s := api.Step{Kind: api.StepKind(slices.Index(words, parts[0]))}
	if quoted != "" {
		text, _, e := utext.Unquote(`"` + quoted)
		if e != api.OK {
			t.Fatalf("no quoted text: %s", l)
		}
		s.Text = text
	}
	fields := []*int{&s.Node, &s.A, &s.B}
	switch parts[0] {
	case "deliver", "drop", "copy", "arm", "boot":
		fields = []*int{&s.A, &s.B}
	case "spoil":
		fields = []*int{&s.A, &s.B, &s.ID[0]}
	case "off", "on":
		fields = []*int{&s.Node, &s.ID[0], &s.ID[1]}
		parts = append(parts[:2], strings.Split(parts[2], ".")...)
	}
	for i, part := range parts[1:] {
		n, err := strconv.Atoi(part)
		if err != nil {
			t.Fatal(err)
		}
		*fields[i] = n
	}
	return s
}

// transcript: answers and views, a line each.
func transcript(answers []api.Answer, views []api.View) string {
	var out []string
	for _, a := range answers {
		out = append(out, fmt.Sprintf("%d %d %d %s", int(a.Code), a.N, a.M, utext.Quote(a.Text)))
	}
	for _, v := range views {
		up := 0
		if v.Up {
			up = 1
		}
		out = append(out, fmt.Sprintf("= %d %d %d %d %d %s", v.Node, up, v.Caret, v.Known, v.Pending, utext.Quote(v.Text)))
	}
	return strings.Join(out, "\n")
}

func TestDocExamples(t *testing.T) {
	for i, c := range docExamples {
		all := strings.Split(c[0], "\n")
		var lim api.Limits
		if _, err := fmt.Sscanf(all[0], "room %d %d %d", &lim.Clients, &lim.Cells, &lim.Ops); err != nil {
			t.Fatal(err)
		}
		var steps []api.Step
		for _, l := range all[1:] {
			steps = append(steps, written(t, l))
		}
		answers, views, e := world.Run(lim, steps)
		if e != api.OK || transcript(answers, views) != c[1] {
			t.Errorf("DOC.md's example %d: %d\n%s\nwant\n%s", i+1, int(e), transcript(answers, views), c[1])
		}
		x := newPair(t, lim)
		x.all(steps...)
	}
}
