package marks_test

import (
	"fmt"
	"math"
	"slices"
	"sort"
	"strings"
	"testing"

	"redraft/api"
	"redraft/desk"
	"redraft/marks"
	"redraft/utext"
)

// The tests know a cell by its rune: no two cells of a scene have the same one, and a view tells the runes of all its cells. So where a mark must be now is where the runes of its first and its last cell stand, and no place is ever carried.

// known: a mark, by its first and its last cell.
type known struct {
	name        string
	first, last rune
}

// scene: a view, a book that is told of all that the view takes in, and the marks that the book must have.
type scene struct {
	t     *testing.T
	r     *desk.Replica
	b     *marks.Book
	known []known
	made  int // runes
	named int // marks with chance names
}

func newScene(t *testing.T) *scene {
	t.Helper()
	return &scene{t: t, r: desk.NewReplica(), b: newBook(t, 0)}
}

func newBook(t *testing.T, total int) *marks.Book {
	t.Helper()
	b, e := marks.New(total)
	if b == nil || e != api.OK {
		t.Fatalf("P20.2: New(%d) = %v, %d", total, b, int(e))
	}
	return b
}

// fresh: n runes that the scene has not used yet, of one to four bytes.
func (s *scene) fresh(n int) string {
	var out strings.Builder
	for range n {
		out.WriteRune(letter(rune(s.made)))
		s.made++
	}
	return out.String()
}

// letter: the k-th of many unlike runes. (There are 90 of one byte.)
func letter(k rune) rune {
	switch {
	case k%4 == 0 && k < 4*90:
		return '!' + k/4
	case k%4 == 2:
		return 0x4e00 + k
	case k%4 == 3:
		return 0x20000 + k
	}
	return 0xc0 + k
}

func TestLetters(t *testing.T) {
	seen := map[rune]int{}
	for k := range rune(1 << 14) {
		if n, _, e := utext.Check(string(letter(k))); n != 1 || e != api.OK || seen[letter(k)] > 0 {
			t.Fatalf("letter %d is no rune of its own", k)
		}
		seen[letter(k)]++
	}
}

func ins(client, number, at int, text string) api.Op {
	return api.Op{Head: api.Head{ID: api.ID{client, number}, Kind: api.Ins}, At: at, Text: text}
}

func hide(client, number int, bounds ...int) api.Op {
	o := api.Op{Head: api.Head{ID: api.ID{client, number}, Kind: api.Hide}}
	for i := 0; i < len(bounds); i += 2 {
		o.Ranges = append(o.Ranges, api.Range{Lo: bounds[i], Hi: bounds[i+1]})
	}
	return o
}

func show(client, number int, bounds ...int) api.Op {
	o := hide(client, number, bounds...)
	o.Kind = api.Show
	return o
}

func status(client, number int, target api.ID, on bool) api.Op {
	return api.Op{Head: api.Head{ID: api.ID{client, number}, Kind: api.Status}, Target: target, On: on}
}

func mark(name string, lo, hi int) api.Mark { return api.Mark{Name: name, Lo: lo, Hi: hi} }

// next: the number of the client's next command.
func (s *scene) next(client int) int {
	n := 0
	for i := range s.r.Len() {
		if x, _ := s.r.Entry(i); x.ID[0] == client {
			n = max(n, x.ID[1])
		}
	}
	return n + 1
}

// put: the view takes o in as number i, and the book is told; neither may refuse.
func (s *scene) put(i int, o api.Op) api.Op {
	s.t.Helper()
	x, err := s.r.Put(i, o)
	if err != nil {
		s.t.Fatalf("Put(%d, %v): %v", i, o, err)
	}
	if e := s.b.Follow(x); e != api.OK {
		s.t.Fatalf("P20.10: Follow(%v) = %d", x, int(e))
	}
	return x
}

// write: client's insert of n runes as number i, and its effect.
func (s *scene) write(i, client, at, n int) api.Op {
	s.t.Helper()
	return s.put(i, ins(client, s.next(client), at, s.fresh(n)))
}

// turn: a Status of client, behind all others.
func (s *scene) turn(client int, target api.ID, on bool) {
	s.t.Helper()
	s.put(s.r.Len(), status(client, s.next(client), target, on))
}

// mark: a mark that must be accepted.
func (s *scene) mark(name string, lo, hi int) {
	s.t.Helper()
	if e := s.b.Put(mark(name, lo, hi)); e != api.OK {
		s.t.Fatalf("P20.3: Put(%s %d-%d) = %d", name, lo, hi, int(e))
	}
	all, _ := s.cells()
	s.known = append(s.known, known{name, all[lo], all[hi-1]})
}

func (s *scene) drop(name string) {
	s.t.Helper()
	if e := s.b.Drop(name); e != api.OK {
		s.t.Fatalf("P20.4: Drop(%s) = %d", name, int(e))
	}
	s.known = slices.DeleteFunc(s.known, func(k known) bool { return k.name == name })
}

// cells: the runes and the counters of all cells of the view.
func (s *scene) cells() (all []rune, hid []int) {
	for _, run := range s.r.Runs() {
		for _, r := range run.Text {
			all, hid = append(all, r), append(hid, run.Hid)
		}
	}
	return all, hid
}

// want: the marks that the book must have, in their order.
func (s *scene) want() []api.Mark {
	all, _ := s.cells()
	var list []api.Mark
	for _, k := range s.known {
		list = append(list, mark(k.name, slices.Index(all, k.first), slices.Index(all, k.last)+1))
	}
	return inOrder(list)
}

// inOrder: by the chapter's words.
func inOrder(list []api.Mark) []api.Mark {
	list = slices.Clone(list)
	sort.Slice(list, func(i, j int) bool {
		a, b := list[i], list[j]
		if a.Lo != b.Lo {
			return a.Lo < b.Lo
		}
		if a.Hi != b.Hi {
			return a.Hi < b.Hi
		}
		return a.Name < b.Name
	})
	return list
}

// shape: a value, written out. A list without elements is one and the same, nil or not.
func shape(v any) string {
	return strings.ReplaceAll(fmt.Sprintf("%#v", v), "(nil)", "{}")
}

// same: just this answer, and this error.
func same(t *testing.T, what string, got any, e api.Errno, want any, wantE api.Errno) {
	t.Helper()
	if shape(got) != shape(want) || e != wantE {
		t.Errorf("%s = %s, %d, want %s, %d", what, shape(got), int(e), shape(want), int(wantE))
	}
}

// told: all that a view tells.
func told(r *desk.Replica) string {
	if r == nil {
		return "no view"
	}
	ops, _ := r.Ops(0, r.Len())
	return fmt.Sprintf("%q %d %d %#v %v", r.Text(), r.Shown(), r.Total(), r.Runs(), ops)
}

// kept: all that a book tells without a view.
func kept(b *marks.Book) string {
	out := fmt.Sprint(b.Total(), b.Marks())
	for _, m := range b.Marks() {
		one, e := b.Mark(m.Name)
		out += fmt.Sprint(one, int(e))
	}
	return out
}

// far: numbers that are nobody's place.
func far() []int {
	return []int{math.MinInt, math.MinInt + 1, -1 << 32, -2, -1, 1<<20 + 1, 1<<31 - 1, 1 << 31, 1 << 32, math.MaxInt - 1, math.MaxInt}
}

// places: all from 0 to n + 1, and the far ones.
func places(n int) []int {
	list := far()
	for p := range n + 2 {
		list = append(list, p)
	}
	return list
}

// agree: all that the book answers is what it must be; and neither book nor view is changed by being asked.
func (s *scene) agree(what string) {
	s.t.Helper()
	view, book := told(s.r), kept(s.b)
	want := s.want()
	if got := s.b.Total(); got != s.r.Total() {
		s.t.Errorf("P20.10: %s: Total = %d, want %d", what, got, s.r.Total())
	}
	same(s.t, "P20.10: "+what+": Marks", s.b.Marks(), api.OK, want, api.OK)
	s.agreeSeen(what, want)
	for _, m := range want {
		got, e := s.b.Mark(m.Name)
		same(s.t, "P20.6: "+what+": Mark("+m.Name+")", got, e, m, api.OK)
	}
	if told(s.r) != view {
		s.t.Errorf("P20.1: %s: asking has changed the view: %s, want %s", what, told(s.r), view)
	}
	if kept(s.b) != book {
		s.t.Errorf("P20.1: %s: asking has changed the book: %s, want %s", what, kept(s.b), book)
	}
}

// agreeSeen: what the book answers of the view's visible cells.
func (s *scene) agreeSeen(what string, want []api.Mark) {
	s.t.Helper()
	var gone []string
	for _, m := range want {
		ahead, text := s.seen(m)
		lo, hi, e := s.b.Shown(m.Name, s.r)
		same(s.t, "P20.8: "+what+": Shown("+m.Name+")", [2]int{lo, hi}, e, [2]int{ahead, ahead + len([]rune(text))}, api.OK)
		got, e := s.b.Text(m.Name, s.r)
		same(s.t, "P20.8: "+what+": Text("+m.Name+")", got, e, text, api.OK)
		if string([]rune(s.r.Text())[lo:hi]) != text {
			s.t.Errorf("P20.8: %s: the runes %d to %d of the view's text are not %q", what, lo, hi, text)
		}
		if text == "" {
			gone = append(gone, m.Name)
		}
	}
	list, e := s.b.Sweep(s.r)
	same(s.t, "P20.9: "+what+": Sweep", list, e, gone, api.OK)
}

// seen: how many visible cells stand ahead of a mark, and the runes of its own.
func (s *scene) seen(m api.Mark) (ahead int, text string) {
	all, hid := s.cells()
	for at, r := range all {
		if hid[at] == 0 && at < m.Lo {
			ahead++
		}
		if hid[at] == 0 && m.Lo <= at && at < m.Hi {
			text += string(r)
		}
	}
	return ahead, text
}

// texts: of each known mark its text.
func (s *scene) texts() map[string]string {
	out := map[string]string{}
	for _, k := range s.known {
		text, e := s.b.Text(k.name, s.r)
		if e != api.OK {
			s.t.Fatalf("P20.8: Text(%s): %d", k.name, int(e))
		}
		out[k.name] = text
	}
	return out
}
