package search_test

import (
	"errors"
	"math/rand"
	"reflect"
	"slices"
	"strings"
	"testing"

	"redraft/api"
	"redraft/desk"
)

// faultOf: the Fault that an error of Run must be.
func faultOf(t *testing.T, err error) *api.Fault {
	t.Helper()
	f, ok := err.(*api.Fault)
	if !ok || f.Call != "Run" {
		t.Fatalf("P21.10: Run's error is %v", err)
	}
	return f
}

// seen: all that a desk tells of itself.
type seen struct {
	text       string
	runs       []api.Run
	ops        []api.Op
	undo, redo []api.ID
	gap        int
}

func lookAt(d *desk.Desk) seen {
	ops, _ := d.Ops(0, d.Len())
	undo, redo := d.Stacks()
	return seen{d.Text(), d.Runs(), ops, undo, redo, d.Gap()}
}

// byHand does a plan at a desk as P21.10 says it: the commands, and the desk's error, if it refused one.
func byHand(d *desk.Desk, plan []api.Splice) (made []api.Op, err error) {
	for _, x := range plan {
		if x.Del != 0 {
			o, err := d.Delete(x.At, x.Del)
			if err != nil {
				return made, err
			}
			made = append(made, o)
		}
		at := x.At
		for rest := []rune(x.Ins); len(rest) > 0; {
			n := min(256, len(rest))
			o, err := d.Insert(at, string(rest[:n]))
			if err != nil {
				return made, err
			}
			made = append(made, o)
			at, rest = at+n, rest[n:]
		}
	}
	return made, nil
}

// holdRun runs at a desk what is done by hand at its twin, and undoes it, if it was not refused; whether it was.
func holdRun(t *testing.T, source, with string, d, twin *desk.Desk) (refused bool) {
	t.Helper()
	p := compiled(t, source)
	was := d.Text()
	want, _, e := p.Replace(was, with)
	plan, e2 := p.Plan(was, with)
	if e != api.OK || e2 != api.OK {
		t.Fatal(e, e2)
	}
	made, wantErr := byHand(twin, plan)
	got, err := p.Run(d, with)
	if !slices.EqualFunc(got, made, func(a, b api.Op) bool { return reflect.DeepEqual(a, b) }) {
		t.Fatalf("P21.10: Run of %q with %q on %q makes %v, want %v", source, with, was, got, made)
	}
	if !reflect.DeepEqual(lookAt(d), lookAt(twin)) {
		t.Fatalf("P21.10: behind a Run of %q with %q the desk is %v, want %v", source, with, lookAt(d), lookAt(twin))
	}
	if wantErr != nil {
		if f := faultOf(t, err); f.At != len(made) || !reflect.DeepEqual(f.Err, wantErr) {
			t.Fatalf("P21.10: a Run that is refused says %v, want %d and %v", err, len(made), wantErr)
		}
		return true
	}
	if err != nil {
		t.Fatalf("P21.10: Run of %q with %q on %q: %v", source, with, was, err)
	}
	if d.Text() != want {
		t.Fatalf("P21.12: behind the Run the text is %q, Replace gives %q", d.Text(), want)
	}
	for i := range got {
		if _, err := d.Undo(); err != nil {
			if api.Code(err) != api.ErrOps {
				t.Fatalf("P21.12: undo %d of %d: %v", i+1, len(got), err)
			}
			return false
		}
	}
	if d.Text() != was {
		t.Fatalf("P21.12: undone, the text is %q, was %q", d.Text(), was)
	}
	return false
}

func twins(t *testing.T, lim api.Limits, texts ...string) (a, b *desk.Desk) {
	return newDesk(t, lim, texts...), newDesk(t, lim, texts...)
}

func TestRuns(t *testing.T) {
	for _, source := range []string{"o", "one", "[a-z]+", "o*", "^", "$", `\b`, "^.*$", ".", "z", "(o|n)+|t"} {
		for _, with := range []string{"", "&", "x", "<&>", `\&`, "one", "\u20ac\n"} {
			for _, texts := range [][]string{nil, {"one two one"}, {"a\u20aco\n", "one\n\nto"}} {
				a, b := twins(t, wide, texts...)
				if holdRun(t, source, with, a, b) {
					t.Errorf("P21.10: Run of %q with %q on %q is refused", source, with, texts)
				}
			}
		}
	}
}

// On an empty desk there may be one match, of the empty stretch.
func TestRunOnAnEmptyDesk(t *testing.T) {
	d := newDesk(t, wide)
	if ops, err := compiled(t, "a").Run(d, "x"); len(ops) != 0 || err != nil || d.Len() != 0 {
		t.Errorf("P21.10: nothing is found on an empty desk: %v, %v", ops, err)
	}
	ops, err := compiled(t, "a*").Run(d, "x&y")
	if err != nil || len(ops) != 1 || ops[0].Kind != api.Ins || ops[0].At != 0 || ops[0].Text != "xy" || d.Text() != "xy" || d.Caret() != 2 {
		t.Errorf("P21.10: Run on an empty desk = %v, %v", ops, err)
	}
}

// Long replacements go in by pieces, each behind the one ahead of it.
func TestRunOfLongTexts(t *testing.T) {
	for n, sizes := range map[int][]int{1: {1}, 255: {255}, 256: {256}, 257: {256, 1}, 511: {256, 255}, 512: {256, 256}, 513: {256, 256, 1}, 700: {256, 256, 188}} {
		var with []rune
		for i := range n {
			with = append(with, rune(0x4e00+i))
		}
		d, twin := twins(t, wide, "axbx")
		ops, err := compiled(t, "x").Run(d, string(with))
		if err != nil || len(ops) != 2*(1+len(sizes)) || d.Text() != "a"+string(with)+"b"+string(with) {
			t.Fatalf("P21.10: Run with %d runes: %d commands, %v", n, len(ops), err)
		}
		for i, size := range sizes {
			if got := []rune(ops[1+i].Text); len(got) != size || got[0] != rune(0x4e00+256*i) {
				t.Errorf("P21.10: Run with %d runes: piece %d has %d, want %d", n, i, len(got), size)
			}
		}
		d, _ = twins(t, wide, "axbx")
		holdRun(t, "x", string(with), d, twin)
	}
	d, twin := twins(t, wide, strings.Repeat("ab", 100))
	holdRun(t, "(ab)+", "&&&&", d, twin)
}

// A desk that refuses in the middle, at each command that may be the one: by its commands, and by its cells.
func TestRunIsRefused(t *testing.T) {
	long := strings.Repeat("\u00e9", 300)
	for _, with := range []string{"0", "", "&&", long} {
		refused := 0
		for ops := 1; ops <= 14; ops++ {
			a, b := twins(t, api.Limits{Clients: 1, Cells: 4000, Ops: ops}, "one two oo")
			if holdRun(t, "o", with, a, b) {
				refused++
			}
		}
		for cells := 10; cells <= 30; cells++ {
			a, b := twins(t, api.Limits{Clients: 1, Cells: cells, Ops: 100}, "one two oo")
			if holdRun(t, "o", with, a, b) {
				refused++
			}
		}
		if with == "" && refused != 4 || with == long && refused < 25 {
			t.Errorf("%d runs with %.9q are refused", refused, with)
		}
	}
	a, b := twins(t, api.Limits{Clients: 1, Cells: 700, Ops: 100}, "one two oo")
	if !holdRun(t, "o", long, a, b) {
		t.Errorf("P21.10: cells for two of four long texts, and nothing is refused")
	}
	if _, err := compiled(t, "o").Run(a, "0123456789012345678901234567890123456789012345678901234567890123456789012345678901234567890123456789"); api.Code(err) != api.ErrCells || !errors.Is(err, api.ErrCells) {
		t.Errorf("P21.10: %v", err)
	}
}

// What a refused Run has made stays, and what it answers tells it.
func TestWhatStays(t *testing.T) {
	d := newDesk(t, api.Limits{Clients: 1, Cells: 11, Ops: 100}, "one two o")
	ops, err := compiled(t, "o").Run(d, "xy")
	var inner *api.Fault
	f := faultOf(t, err)
	if f.At != 3 || !errors.As(f.Err, &inner) || inner.Call != "Insert" || inner.At != 6 || inner.Err != error(api.ErrCells) {
		t.Errorf("P21.10: %v", err)
	}
	if len(ops) != 3 || d.Text() != "one tw xy" || d.Len() != 4 {
		t.Errorf("P21.10: %d commands, the text is %q", len(ops), d.Text())
	}
	for range ops {
		d.Undo()
	}
	if d.Text() != "one two o" {
		t.Errorf("P21.12: undone, the text is %q", d.Text())
	}
}

// The errors ahead of the first command: in their order, at 0, and the desk stays as it is.
func TestErrorsOfRun(t *testing.T) {
	d := newDesk(t, wide, "one")
	was := lookAt(d)
	for _, c := range []struct {
		d    *desk.Desk
		with string
		e    api.Errno
	}{
		{nil, "x", api.ErrHandle}, {nil, "\xff", api.ErrHandle}, {nil, `\`, api.ErrHandle},
		{d, "\xff", api.ErrUtf8}, {d, "\\\xff", api.ErrUtf8}, {d, "\x00", api.ErrRune}, {d, "\\a\x00", api.ErrRune}, {d, `\`, api.ErrPattern}, {d, `\a`, api.ErrPattern}, {d, `&\`, api.ErrPattern},
	} {
		for _, source := range []string{"o", "z"} {
			ops, err := compiled(t, source).Run(c.d, c.with)
			if f := faultOf(t, err); len(ops) != 0 || f.At != 0 || f.Err != error(c.e) {
				t.Errorf("P21.10: Run with %q = %v, %v, want %v", c.with, ops, err, c.e)
			}
		}
	}
	if !reflect.DeepEqual(lookAt(d), was) {
		t.Errorf("P21.10: a Run that is refused has changed the desk")
	}
}

// A desk that others write at, too: tombstones, received commands and pending ones about the matches.
func TestRunAmongOthers(t *testing.T) {
	r := rand.New(rand.NewSource(2110))
	for range 400 {
		a, b := twins(t, wide)
		seed := r.Int63()
		scribble(t, rand.New(rand.NewSource(seed)), a)
		scribble(t, rand.New(rand.NewSource(seed)), b)
		source := []string{"a", "b+", "(ab)*", "[^a]", "^", `\b`, "a|ba"}[r.Intn(7)]
		holdRun(t, source, []string{"", "ab", "&&", "<&>"}[r.Intn(4)], a, b)
	}
}

func scribble(t *testing.T, r *rand.Rand, d *desk.Desk) {
	t.Helper()
	number := 0
	for range 3 + r.Intn(12) {
		var err error
		n := d.Shown()
		switch r.Intn(6) {
		case 0, 1, 2:
			_, err = d.Insert(r.Intn(n+1), strings.Repeat([]string{"a", "b", "\n"}[r.Intn(3)], 1+r.Intn(3)))
		case 3:
			if n > 0 {
				at := r.Intn(n)
				_, err = d.Delete(at, 1+r.Intn(n-at))
			}
		case 4:
			number++
			err = d.Take(api.Op{Head: api.Head{ID: api.ID{2, number}, Kind: api.Ins}, Text: "ba"})
		case 5:
			if len(d.Pending()) > 0 {
				err = d.Confirm(d.Pending()[0].ID)
			}
		}
		if err != nil {
			t.Fatal(err)
		}
	}
}
