package client_test

import (
	"fmt"
	"go/ast"
	"go/parser"
	"go/token"
	"math/rand"
	"os"
	"slices"
	"strings"
	"testing"

	"redraft/api"
	"redraft/client"
	"redraft/desk"
	"redraft/msg"
)

// caller: the calls that a client's user has, and a desk's.
type caller interface {
	Insert(p int, text string) (api.Op, error)
	Delete(p, n int) (api.Op, error)
	Move(p int) error
	Undo() (api.Op, error)
	Redo() (api.Op, error)
	Turn(id api.ID, on bool) (api.Op, error)
	User() int
	Caret() int
	Gap() int
	Received() int
	Pending() []api.Op
	Stacks() (undo, redo []api.ID)
	Text() string
	Shown() int
	Total() int
	Runs() []api.Run
	Len() int
	Entry(i int) (api.Entry, error)
	Find(id api.ID) (int, error)
	Ops(lo, hi int) ([]api.Op, error)
	Erase(id api.ID) ([]api.Op, error)
}

var (
	_ caller = (*client.Client)(nil)
	_ caller = (*desk.Desk)(nil)
)

// called: a call with its answers as a text, errors as they stand.
func called(d caller, s step) string {
	switch s.kind {
	case "Insert":
		return fmt.Sprint(d.Insert(s.p, s.text))
	case "Delete":
		return fmt.Sprint(d.Delete(s.p, s.n))
	case "Move":
		return fmt.Sprint(d.Move(s.p))
	case "Undo":
		return fmt.Sprint(d.Undo())
	case "Redo":
		return fmt.Sprint(d.Redo())
	}
	return fmt.Sprint(d.Turn(s.id, s.on))
}

// asked: all questions, at all numbers near those that are right, and far away.
func asked(d caller) string {
	undo, redo := d.Stacks()
	out := []string{fmt.Sprintf("%d %d %d %d %v %v %v %q %d %d %v %d", d.User(), d.Caret(), d.Gap(), d.Received(), d.Pending(), undo, redo, d.Text(), d.Shown(), d.Total(), d.Runs(), d.Len())}
	numbers := append([]int{-1, d.Len(), d.Len() + 1}, far...)
	for i := range d.Len() {
		numbers = append(numbers, i)
	}
	for _, i := range numbers {
		a, err := d.Entry(i)
		out = append(out, fmt.Sprint(a, err))
		for _, k := range []int{-1, 0, i, d.Len(), d.Len() + 1} {
			b, err := d.Ops(i, k)
			out = append(out, fmt.Sprint(b, err))
		}
	}
	for c := range 5 {
		for n := range 12 {
			a, err := d.Find(api.ID{c, n})
			b, err2 := d.Erase(api.ID{c, n})
			out = append(out, fmt.Sprint(a, err, b, err2))
		}
	}
	return strings.Join(out, "\n")
}

// receive: what a message does to a desk, in its turn.
func receive(t *testing.T, d *desk.Desk, b []byte) {
	t.Helper()
	m, e := msg.Unseal(b)
	switch {
	case e != api.OK:
		t.Fatal(e)
	case m.Code == api.Ack:
		must(t, d.Confirm(api.ID{d.User(), m.Seq}))
	case m.Op.ID[0] == d.User():
		must(t, d.Confirm(m.Op.ID))
	default:
		must(t, d.Take(m.Op))
	}
}

// P15.7, chapter 8: a client beside a desk to which the same commands come, in the order of their turns: the promoted calls answer the same, with the same errors.
func TestP15_7Desk(t *testing.T) {
	for seed := range int64(60) {
		r := rand.New(rand.NewSource(1570 + seed))
		lim := []api.Limits{room, small}[seed%2]
		x := pairOf(t, 1+r.Intn(3), lim)
		d, err := desk.New(x.p.user, lim)
		must(t, err)
		for range 12 {
			for range r.Intn(4) {
				s := randomCall(r, x.p)
				if r.Intn(6) == 0 {
					s.p, s.n, s.id = far[r.Intn(len(far))], far[r.Intn(len(far))], api.ID{r.Intn(4), r.Intn(9)}
				}
				x.p.want(t, s)
				if got, want := called(x.c, s), called(d, s); got != want {
					t.Fatalf("chapter 8: seed %d: %v = %s, a desk's %s", seed, s, got, want)
				}
			}
			mail := plan(r, x.p, 1+r.Intn(4))
			for _, b := range mail {
				must(t, x.p.handle(b))
				receive(t, d, b)
			}
			for _, k := range r.Perm(len(mail)) {
				must(t, x.c.Handle(mail[k]))
			}
			if got, want := asked(x.c), asked(d); got != want {
				t.Fatalf("P15.7: seed %d: the client tells\n%s\na desk\n%s", seed, got, want)
			}
			if x.c.Desk.Text() != d.Text() || x.c.Desk.Replica.Len() != d.Len() {
				t.Fatal("P15.7: the client's desk is another one")
			}
		}
	}
}

// Ticks, Waits and Held leave the desk as it is.
func TestP15_7TicksLeaveIt(t *testing.T) {
	x := begun(t)
	was := asked(x.c)
	for range 30 {
		x.do(tick())
		x.c.Waits()
		x.c.Held()
		if now := asked(x.c); now != was {
			t.Fatalf("P15.7: a tick has made\n%s\nof\n%s", now, was)
		}
	}
}

// The chapter's 'Ways': there is no call of the client's own that only hands on. Its own ones are these.
func TestOwnCalls(t *testing.T) {
	files, err := os.ReadDir(".")
	must(t, err)
	var got []string
	for _, f := range files {
		if !strings.HasSuffix(f.Name(), ".go") || strings.HasSuffix(f.Name(), "_test.go") {
			continue
		}
		file, err := parser.ParseFile(token.NewFileSet(), f.Name(), nil, 0)
		must(t, err)
		for _, d := range file.Decls {
			if d, ok := d.(*ast.FuncDecl); ok && d.Name.IsExported() {
				got = append(got, d.Name.Name)
			}
		}
	}
	slices.Sort(got)
	if want := []string{"Handle", "Held", "New", "Tick", "Waits"}; !slices.Equal(got, want) {
		t.Errorf("the client's own calls are %v, want %v", got, want)
	}
}
