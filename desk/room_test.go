package desk_test

import (
	"math/rand"
	"slices"
	"testing"

	"redraft/api"
	"redraft/desk"
	"redraft/op"
	"redraft/xform"
)

// table: the desks of one room, and the journal between them. Every rune that is typed there is another one, so that a row of runes tells which cells it holds.
type table struct {
	t       *testing.T
	seats   []*seat
	journal []api.Op
	typed   rune
	seen    [][]rune // rows of cells that some desk has shown
}

func newTable(t *testing.T, users int) *table {
	t.Helper()
	b := &table{t: t, typed: 0x4e00}
	for user := 1; user <= users; user++ {
		b.seats = append(b.seats, sit(t, user, room(users, 500, 200)))
	}
	return b
}

// fresh: a text of n runes that nobody has typed yet.
func (b *table) fresh(n int) string {
	var out []rune
	for range n {
		b.typed++
		out = append(out, b.typed)
	}
	return string(out)
}

// submit: the first pending command of a desk into the journal, unless it is there, carried over what its user had not received.
func (b *table) submit(s *seat) {
	b.t.Helper()
	p := s.d.Pending()
	if len(p) == 0 || slices.ContainsFunc(b.journal, func(o api.Op) bool { return o.ID == p[0].ID }) {
		return
	}
	o, e := xform.Over(p[0], true, b.journal[s.d.Received():]...)
	if e != api.OK {
		b.t.Fatalf("%v can't be carried: %d", p[0], e)
	}
	b.journal = append(b.journal, o)
}

// deliver: the next command of the journal to a desk; false, if there is none.
func (b *table) deliver(s *seat) bool {
	b.t.Helper()
	r := s.d.Received()
	if r == len(b.journal) {
		return false
	}
	o := b.journal[r]
	if o.ID[0] != s.d.User() {
		if e := s.take(o); e != api.OK {
			b.t.Fatalf("P8.12: user %d, Take(%v) = %d", s.d.User(), o, e)
		}
		return true
	}
	if mine := s.d.Pending()[0]; !op.Equal(mine, o) {
		b.t.Errorf("P8.14, P8.18: user %d has %v pending, the journal has it as %v", s.d.User(), mine, o)
	}
	if e := s.confirm(o.ID); e != api.OK {
		b.t.Fatalf("P8.13: user %d, Confirm(%v) = %d", s.d.User(), o.ID, e)
	}
	return true
}

// settle: until nothing is pending and all has come to all.
func (b *table) settle() {
	b.t.Helper()
	for busy := true; busy; {
		busy = false
		for _, s := range b.seats {
			b.submit(s)
		}
		for _, s := range b.seats {
			for b.deliver(s) {
				busy = true
			}
		}
	}
}

// write: a user does something.
func (b *table) write(rnd *rand.Rand, s *seat) {
	b.t.Helper()
	p := rnd.Intn(s.d.Shown() + 1)
	switch rnd.Intn(9) {
	case 0, 1, 2:
		s.insertChecked(p, b.fresh(1+rnd.Intn(3)))
	case 3, 4:
		s.deleteChecked(p, min(1+rnd.Intn(4), s.d.Shown()-p))
	case 5:
		s.undo()
	case 6:
		s.redo()
	case 7:
		s.move(p)
	case 8:
		if id := s.someID(rnd); rnd.Intn(2) == 0 {
			s.turn(id, rnd.Intn(2) == 0)
		} else {
			s.offAndOn(id)
		}
	}
}

// cellsOf: the cells of a view, one by one.
func cellsOf(r *desk.Replica) []api.Cell {
	var out []api.Cell
	for _, run := range r.Runs() {
		for _, c := range run.Text {
			out = append(out, api.Cell{Rune: c, Hid: run.Hid})
		}
	}
	return out
}

// offAndOn: P8.17 of an edit that is on.
func (s *seat) offAndOn(id api.ID) {
	s.t.Helper()
	k, err := s.d.Find(id)
	x, _ := s.d.Entry(k)
	if err != nil || x.Kind == api.Status || !x.On {
		return
	}
	want, runs, text := cellsOf(&s.d.Replica), s.d.Runs(), s.d.Text()
	by := 1
	if x.Kind == api.Hide {
		by = -1
	}
	for _, r := range x.Ranges {
		for q := r.Lo; q < r.Hi; q++ {
			want[q].Hid += by
		}
	}
	if _, e := s.turn(id, false); e != api.OK {
		return
	}
	if got := cellsOf(&s.d.Replica); !slices.Equal(got, want) {
		s.t.Errorf("P8.17: Turn(%v, false) makes %v of %v, want %v", id, got, runs, want)
	}
	s.is("P8.17: off")
	if _, e := s.turn(id, true); e == api.OK && (!slices.Equal(s.d.Runs(), runs) || s.d.Text() != text) {
		s.t.Errorf("P8.17: Turn(%v, true) gives %v, want %v", id, s.d.Runs(), runs)
	}
}

// asIfNever: P8.19 of each edit that is off; how many there were.
func (s *seat) asIfNever() int {
	s.t.Helper()
	n := 0
	for _, m := range s.m.order {
		if m.Kind == api.Status || s.m.flag(m.ID) {
			continue
		}
		left, err := s.d.Erase(m.ID)
		if err != nil {
			answers(s.t, err, "Erase", 0, api.ErrInside)
			continue
		}
		n++
		if got := replayed(s.t, left).Text(); got != s.d.Text() {
			s.t.Errorf("P8.19: without %v the text is %q, with it off %q", m.ID, got, s.d.Text())
		}
	}
	return n
}

// look: what all desks are held to behind each step.
func (b *table) look(s *seat) {
	b.t.Helper()
	s.is("at a table")
	row := []rune{}
	for _, c := range cellsOf(&s.d.Replica) {
		row = append(row, c.Rune)
	}
	b.seen = append(b.seen, row)
	for _, other := range b.seats {
		same := other.d.Received() == s.d.Received() && len(other.d.Pending()) == 0 && len(s.d.Pending()) == 0
		if same && !slices.Equal(other.d.Runs(), s.d.Runs()) {
			b.t.Errorf("P8.18: with the same %d commands, users %d and %d have %v and %v", s.d.Received(), s.d.User(), other.d.User(), s.d.Runs(), other.d.Runs())
		}
	}
}

// isPart: are the runes of part, in their order, among those of the whole?
func isPart(part, whole []rune) bool {
	for _, c := range whole {
		if len(part) > 0 && part[0] == c {
			part = part[1:]
		}
	}
	return len(part) == 0
}

// end: all has come to all. There is one text, one order of cells, and a Replica that was handed the journal shows it too.
func (b *table) end() {
	b.t.Helper()
	b.settle()
	journal := replayed(b.t, b.journal)
	var whole []rune
	for _, c := range cellsOf(journal) {
		whole = append(whole, c.Rune)
	}
	for _, s := range b.seats {
		b.look(s)
		got, _ := s.d.Ops(0, s.d.Len())
		if !slices.EqualFunc(got, b.journal, op.Equal) {
			b.t.Errorf("P8.18: user %d holds %v, the journal %v", s.d.User(), got, b.journal)
		}
		if !slices.Equal(s.d.Runs(), journal.Runs()) || s.d.Text() != journal.Text() {
			b.t.Errorf("P8.4, P8.18: user %d has %v, the journal makes %v", s.d.User(), s.d.Runs(), journal.Runs())
		}
	}
	for _, row := range b.seen {
		if !isPart(row, whole) {
			b.t.Errorf("DOC.md's P6: a view has shown the cells %q, all cells stand as %q", string(row), string(whole))
		}
	}
}

// P8.15 to P8.19: up to four users at one text, the last of whom only reads.
func TestRooms(t *testing.T) {
	erased := 0
	for seed := range int64(120) {
		rnd := rand.New(rand.NewSource(8800 + seed))
		b := newTable(t, 3+rnd.Intn(2))
		for range 45 {
			s := b.seats[rnd.Intn(len(b.seats))]
			switch k := rnd.Intn(8); {
			case k < 4 && s != b.seats[len(b.seats)-1]:
				b.write(rnd, s)
			case k == 4:
				b.submit(s)
			default:
				b.deliver(s)
			}
			b.look(s)
		}
		for _, s := range b.seats {
			erased += s.asIfNever()
		}
		b.end()
		erased += b.seats[0].asIfNever()
		if t.Failed() {
			t.Fatalf("seed %d", seed)
		}
	}
	if erased < 100 {
		t.Errorf("P8.19: only %d edits were erased", erased)
	}
}

// P8.18: the same commands in one order, whoever of the two made which: both ways, and half and half.
func TestP8_18WhoeverMadeWhich(t *testing.T) {
	b := newTable(t, 2)
	a, c := b.seats[0], b.seats[1]
	a.insert(0, "the text")
	b.settle()
	a.insert(4, "long ")
	c.insert(4, "short ")
	c.delete(0, 4)
	a.delete(4, 9)
	a.undo()
	c.turn(api.ID{1, 1}, false)
	for _, s := range []*seat{c, a, a, c, a, c} {
		b.submit(s)
		for b.deliver(s) {
		}
	}
	b.end()
	for _, s := range b.seats {
		if s.d.Text() != "short long " {
			t.Errorf("P8.18: user %d has %q", s.d.User(), s.d.Text())
		}
	}
	reader := sit(t, 3, room(3, 99, 99)) // made none of them
	for _, o := range b.journal {
		reader.take(o)
	}
	if !slices.Equal(reader.d.Runs(), a.d.Runs()) {
		t.Errorf("P8.18: a reader has %v, the writers %v", reader.d.Runs(), a.d.Runs())
	}
}

// P8.17 for an edit of each kind, with cells hidden for other reasons too.
func TestP8_17UndoIsExact(t *testing.T) {
	s := scene(t, 99, 99)
	for _, id := range []api.ID{{1, 1}, {2, 1}, {1, 2}} {
		s.offAndOn(id)
		s.is("P8.17")
	}
	s.turn(api.ID{1, 3}, true)
	s.offAndOn(api.ID{1, 3})
	s.delete(0, s.d.Shown())
	for n := 1; n <= 3; n++ {
		s.offAndOn(api.ID{1, n})
	}
	s.is("P8.17")
}

// P8.19 with numbers: an insert and a delete that are off.
func TestP8_19AsIfNever(t *testing.T) {
	s := sit(t, 1, room(2, 99, 99))
	s.insert(0, "abcdef")
	s.insert(3, "XYZ")
	s.delete(0, 2)
	s.insert(7, "!")
	s.turn(api.ID{1, 2}, false)
	s.turn(api.ID{1, 3}, false)
	shows(t, s.d, "P8.19", "abcdef!", 2, 2)
	left, err := s.d.Erase(api.ID{1, 2})
	want := []api.Op{ins(1, 1, 0, "abcdef"), hide(1, 3, 0, 2), ins(1, 4, 6, "!"), status(1, 6, api.ID{1, 3}, false)}
	if err != nil || !slices.EqualFunc(left, want, op.Equal) {
		t.Errorf("P8.19: Erase = %v, %v, want %v", left, err, want)
	}
	if got := replayed(t, left); got.Text() != s.d.Text() || got.Total() != s.d.Total()-3 {
		t.Errorf("P8.19: %q of %d cells", got.Text(), got.Total())
	}
	if n := s.asIfNever(); n != 2 {
		t.Errorf("P8.19: %d edits are off", n)
	}
	s.is("P8.19: Erase changes nothing")
}
