package window_test

import (
	"fmt"
	"iter"
	"math"
	"slices"
	"strings"
	"testing"

	"redraft/api"
	"redraft/window"
)

// far: numbers far beside every bound.
var far = []int{math.MinInt, math.MinInt + 1, -api.MaxPlace, math.MaxInt / 2, math.MaxInt - 2*api.MaxPlace, math.MaxInt - api.MaxPlace, math.MaxInt - 1, math.MaxInt}

// holder: what can be called of a window of strings.
type holder interface {
	Put(n int, v string) api.Errno
	Peek() (string, api.Errno)
	Pass() api.Errno
	Drop(n int) api.Errno
	Ready() iter.Seq2[int, string]
	Next() int
	Held() []int
}

// came: a thing that was put; gone, if it was passed or dropped since.
type came struct {
	n    int
	v    string
	gone bool
}

// plain: a window as the chapter's words tell it. It forgets nothing: all that was ever put stands in one row, in the order in which it came.
type plain struct {
	next, size int
	row        []came
}

// find: where the thing with this number stands in the row, or -1.
func (p *plain) find(n int) int {
	return slices.IndexFunc(p.row, func(c came) bool { return c.n == n && !c.gone })
}

func (p *plain) Put(n int, v string) api.Errno {
	switch {
	case n < p.next:
		return api.ErrOld
	case n >= p.next+p.size:
		return api.ErrFar
	case p.find(n) >= 0:
		return api.ErrDouble
	}
	p.row = append(p.row, came{n: n, v: v})
	return api.OK
}

func (p *plain) Peek() (string, api.Errno) {
	if i := p.find(p.next); i >= 0 {
		return p.row[i].v, api.OK
	}
	return "", api.ErrEmpty
}

func (p *plain) Pass() api.Errno {
	i := p.find(p.next)
	if i < 0 {
		return api.ErrEmpty
	}
	p.row[i].gone = true
	p.next++
	return api.OK
}

func (p *plain) Drop(n int) api.Errno {
	i := p.find(n)
	if i < 0 {
		return api.ErrEmpty
	}
	p.row[i].gone = true
	return api.OK
}

// Ready: one turn of the loop, and then the turns that are left.
func (p *plain) Ready() iter.Seq2[int, string] {
	var turns func(body func(int, string) bool)
	turns = func(body func(int, string) bool) {
		i := p.find(p.next)
		if i < 0 {
			return
		}
		c := p.row[i]
		p.Pass()
		if body(c.n, c.v) {
			turns(body)
		}
	}
	return turns
}

func (p *plain) Next() int { return p.next }

func (p *plain) Held() []int {
	var out []int
	for n := p.next; n < p.next+p.size; n++ {
		if p.find(n) >= 0 {
			out = append(out, n)
		}
	}
	return out
}

// mostTurns: no loop of a script has more, so that one whose body puts the next thing ends too.
const mostTurns = 20

// call: a call, or a loop over Ready, with what its body does in each of its turns.
type call struct {
	kind  string
	n     int // Put and Drop: the number, counted from Next on
	exact int // the number itself, if it isn't 0
	v     string
	turns int // of a loop: behind so many it is left; 0: never
	body  []call
}

func (c call) String() string {
	switch {
	case c.kind == "Loop":
		return fmt.Sprintf("Loop(%d)%v", c.turns, c.body)
	case c.exact != 0:
		return fmt.Sprintf("%s(%d %q)", c.kind, c.exact, c.v)
	}
	return fmt.Sprintf("%s(Next%+d %q)", c.kind, c.n, c.v)
}

// Short ways to write calls.
func put(n int, v string) call           { return call{kind: "Put", n: n, v: v} }
func drop(n int) call                    { return call{kind: "Drop", n: n} }
func peek() call                         { return call{kind: "Peek"} }
func pass() call                         { return call{kind: "Pass"} }
func loop(turns int, body ...call) call  { return call{kind: "Loop", turns: turns, body: body} }
func exactly(n int, kind, v string) call { return call{kind: kind, exact: n, v: v} }

// told: a thing that tells its number.
func told(n int, v string) string { return fmt.Sprintf("%d:%s", n, v) }

// stateOf: what can be seen of a window without a look at the things.
func stateOf(h holder) string { return fmt.Sprintf("Next %d, Held %v", h.Next(), h.Held()) }

// ask: what a call answers, as a text; of a loop all that its turns see.
func ask(h holder, c call) string {
	n := h.Next() + c.n
	if c.exact != 0 {
		n = c.exact
	}
	switch c.kind {
	case "Put":
		return fmt.Sprintf("%d", h.Put(n, told(n, c.v)))
	case "Drop":
		return fmt.Sprintf("%d", h.Drop(n))
	case "Peek":
		v, e := h.Peek()
		return fmt.Sprintf("%q %d", v, e)
	case "Pass":
		return fmt.Sprintf("%d", h.Pass())
	}
	return askLoop(h, c)
}

func askLoop(h holder, c call) string {
	var out []string
	most := c.turns
	if most == 0 {
		most = mostTurns
	}
	turns := 0
	for n, v := range h.Ready() {
		out = append(out, fmt.Sprintf("turn %d %q (%s)", n, v, stateOf(h)))
		for _, b := range c.body {
			out = append(out, ask(h, b))
		}
		turns++
		if turns == most {
			break
		}
	}
	return strings.Join(out, "; ")
}

// made: a new window.
func made[T any](t *testing.T, next, size int) *window.Window[T] {
	t.Helper()
	w, e := window.New[T](next, size)
	if w == nil || e != api.OK {
		t.Fatalf("P13.2: New(%d, %d) = %v, %d", next, size, w, e)
	}
	return w
}

// pair: a window, and what the chapter says of it, which must answer alike.
type pair struct {
	t     *testing.T
	w     *window.Window[string]
	p     *plain
	calls []call
}

func newPair(t *testing.T, next, size int) *pair {
	t.Helper()
	return &pair{t: t, w: made[string](t, next, size), p: &plain{next: next, size: size}}
}

// do: one call of both, and what can be seen behind it.
func (x *pair) do(c call) {
	x.t.Helper()
	x.calls = append(x.calls, c)
	if got, want := ask(x.w, c), ask(x.p, c); got != want {
		x.t.Fatalf("width %d, %v: %s, want %s", x.p.size, x.calls, got, want)
	}
	x.see()
}

func (x *pair) see() {
	x.t.Helper()
	if got, want := stateOf(x.w), stateOf(x.p); got != want {
		x.t.Fatalf("P13.8: width %d, %v: %s, want %s", x.p.size, x.calls, got, want)
	}
	v, e := x.w.Peek()
	if want, f := x.p.Peek(); v != want || e != f {
		x.t.Fatalf("P13.4: width %d, %v: Peek = %q, %d, want %q, %d", x.p.size, x.calls, v, e, want, f)
	}
}

// all: calls one behind the other.
func (x *pair) all(calls ...call) {
	x.t.Helper()
	for _, c := range calls {
		x.do(c)
	}
}

// holds: Next and Held are these.
func holds[T any](t *testing.T, w *window.Window[T], what string, next int, want ...int) {
	t.Helper()
	if got := w.Held(); w.Next() != next || !slices.Equal(got, want) {
		t.Fatalf("%s: Next %d, Held %v, want %d, %v", what, w.Next(), got, next, want)
	}
}

// puts: Put answers this.
func puts[T any](t *testing.T, w *window.Window[T], n int, v T, want api.Errno) {
	t.Helper()
	if e := w.Put(n, v); e != want {
		t.Fatalf("P13.3: Put(%d, %v) = %d, want %d (Next %d)", n, v, e, want, w.Next())
	}
}

// drops: Drop answers this.
func drops[T any](t *testing.T, w *window.Window[T], n int, want api.Errno) {
	t.Helper()
	if e := w.Drop(n); e != want {
		t.Fatalf("P13.6: Drop(%d) = %d, want %d (Next %d)", n, e, want, w.Next())
	}
}

// passes: Pass answers this.
func passes[T any](t *testing.T, w *window.Window[T], want api.Errno) {
	t.Helper()
	if e := w.Pass(); e != want {
		t.Fatalf("P13.5: Pass = %d, want %d (Next %d)", e, want, w.Next())
	}
}

// peeks: Peek answers this.
func peeks[T comparable](t *testing.T, w *window.Window[T], want T, f api.Errno) {
	t.Helper()
	if v, e := w.Peek(); v != want || e != f {
		t.Fatalf("P13.4: Peek = %v, %d, want %v, %d (Next %d)", v, e, want, f, w.Next())
	}
}

// filled: a window of strings that holds things with these numbers, each of which tells its number.
func filled(t *testing.T, next, size int, numbers ...int) *window.Window[string] {
	t.Helper()
	w := made[string](t, next, size)
	for _, n := range numbers {
		puts(t, w, n, told(n, ""), api.OK)
	}
	return w
}

// through: all that a loop over the sequence is handed.
func through[T any](seq iter.Seq2[int, T]) (numbers []int, things []T) {
	for n, v := range seq {
		numbers = append(numbers, n)
		things = append(things, v)
	}
	return numbers, things
}

// hands: a loop over Ready is handed the things that filled has put with these numbers.
func hands(t *testing.T, w *window.Window[string], what string, want ...int) {
	t.Helper()
	handsOf(t, w.Ready(), what, want...)
}

func handsOf(t *testing.T, seq iter.Seq2[int, string], what string, want ...int) {
	t.Helper()
	numbers, things := through(seq)
	if !slices.Equal(numbers, want) {
		t.Fatalf("P13.7: %s: the loop is handed %v, want %v", what, numbers, want)
	}
	for i, n := range numbers {
		if things[i] != told(n, "") {
			t.Fatalf("P13.9: %s: %d comes with %q", what, n, things[i])
		}
	}
}
