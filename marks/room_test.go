package marks_test

import (
	"fmt"
	"math/rand"
	"testing"

	"redraft/api"
	"redraft/desk"
	"redraft/xform"
)

// seat: a desk with a book beside it, which is told of all that the desk's view takes in.
type seat struct {
	*scene
	d *desk.Desk
}

// room: desks, and the journal of their commands.
type room struct {
	t       *testing.T
	seats   []*seat
	journal []api.Op
	made    int
}

func newRoom(t *testing.T, clients int) *room {
	t.Helper()
	m := &room{t: t}
	for user := range clients {
		d, err := desk.New(user+1, api.Limits{Clients: clients, Cells: api.MaxCells, Ops: api.MaxOps})
		if err != nil {
			t.Fatal(err)
		}
		m.seats = append(m.seats, &seat{scene: &scene{t: t, r: &d.Replica, b: newBook(t, 0)}, d: d})
	}
	return m
}

// tell: the book is told what a command, which the view has taken in, has done to it: an Ins stands where its cells are now, all in one piece; of everything else the cells alone know.
func (a *seat) tell(o api.Op) {
	a.t.Helper()
	effect := api.Op{}
	if o.Kind == api.Ins {
		at, _ := a.d.Find(o.ID)
		x, _ := a.d.Entry(at)
		effect = ins(0, 0, x.Ranges[0].Lo, o.Text)
	}
	if e := a.b.Follow(effect); e != api.OK {
		a.t.Fatalf("P20.10: Follow(%v) = %d", effect, int(e))
	}
}

// did: a command of the desk's own user. What the call has answered is itself the effect, but of a Status.
func (a *seat) did(o api.Op, err error) {
	a.t.Helper()
	if err != nil {
		return
	}
	if o.Kind == api.Status {
		if e := a.b.Follow(o); e != api.ErrKind {
			a.t.Errorf("P20.5: Follow(%v) = %d", o, int(e))
		}
		o = api.Op{}
	}
	if e := a.b.Follow(o); e != api.OK {
		a.t.Fatalf("P20.10: Follow(%v) = %d", o, int(e))
	}
}

// act: a chance step of one user.
func (m *room) act(rnd *rand.Rand, a *seat) {
	m.t.Helper()
	n := a.d.Shown()
	switch rnd.Intn(9) {
	case 0, 1, 2:
		a.made = m.made
		a.did(a.d.Insert(rnd.Intn(n+1), a.fresh(1+rnd.Intn(3))))
		m.made = a.made
	case 3, 4:
		p := rnd.Intn(n + 1)
		a.did(a.d.Delete(p, rnd.Intn(n-p+1)))
	case 5:
		a.did(a.d.Undo())
	case 6:
		a.did(a.d.Redo())
	case 7:
		if list := a.edits(a.d.Len()); len(list) > 0 {
			a.did(a.d.Turn(list[rnd.Intn(len(list))], rnd.Intn(2) == 0))
		}
	case 8:
		a.remark(rnd)
	}
}

// send: the seat's first pending command goes into the journal, behind all that is there.
func (m *room) send(a *seat) {
	m.t.Helper()
	list := a.d.Pending()
	if len(list) == 0 || m.underWay(list[0].ID) {
		return
	}
	o, e := xform.Over(list[0], true, m.journal[a.d.Received():]...)
	if e != api.OK {
		m.t.Fatalf("Over(%v): %d", list[0], int(e))
	}
	m.journal = append(m.journal, o)
}

func (m *room) underWay(id api.ID) bool {
	for _, o := range m.journal {
		if o.ID == id {
			return true
		}
	}
	return false
}

// receive: the journal's next command comes to the seat.
func (m *room) receive(a *seat) {
	m.t.Helper()
	if a.d.Received() == len(m.journal) {
		return
	}
	o := m.journal[a.d.Received()]
	if o.ID[0] == a.d.User() {
		if err := a.d.Confirm(o.ID); err != nil { // it was told when it was made
			m.t.Fatal(err)
		}
		return
	}
	if err := a.d.Take(o); err != nil {
		m.t.Fatal(err)
	}
	a.tell(o)
}

// Desks that write at one text: what others have written comes in ahead of what is pending, and each one's marks stay; and when all has come to all, one user's marks are where another's of the same cells are.
func TestP20_10Room(t *testing.T) {
	rnd := rand.New(rand.NewSource(2020))
	for script := range 25 {
		m := newRoom(t, 3)
		for step := range 120 {
			a := m.seats[rnd.Intn(3)]
			switch rnd.Intn(4) {
			case 0, 1:
				m.act(rnd, a)
			case 2:
				m.send(a)
			case 3:
				m.receive(a)
			}
			a.agree(fmt.Sprintf("room %d, step %d, user %d", script, step, a.d.User()))
		}
		m.settle()
		m.oneText(script)
		if t.Failed() {
			t.FailNow()
		}
	}
}

func (m *room) settle() {
	m.t.Helper()
	for !m.settled() {
		for _, a := range m.seats {
			m.send(a)
			m.receive(a)
			a.agree("a room that comes to its end")
		}
	}
}

func (m *room) settled() bool {
	for _, a := range m.seats {
		if len(a.d.Pending()) > 0 || a.d.Received() < len(m.journal) {
			return false
		}
	}
	return true
}

// oneText: each desk's marks, put beside another's view at the same places, are the same words.
func (m *room) oneText(script int) {
	m.t.Helper()
	for _, a := range m.seats {
		for _, b := range m.seats {
			other := newBook(m.t, b.r.Total())
			for _, x := range a.b.Marks() {
				if e := other.Put(x); e != api.OK {
					m.t.Fatalf("P20.3: Put(%v) = %d", x, int(e))
				}
				text, e := other.Text(x.Name, b.r)
				same(m.t, fmt.Sprintf("P20.8: room %d: Text(%s)", script, x.Name), text, e, a.texts()[x.Name], api.OK)
			}
		}
	}
}

// A view of the journal alone, as a server has it.
func TestP20_10Journal(t *testing.T) {
	m := newRoom(t, 2)
	rnd := rand.New(rand.NewSource(2021))
	r := desk.NewReplica()
	s := &scene{t: t, r: r, b: newBook(t, 0)}
	for step := range 400 {
		a := m.seats[rnd.Intn(2)]
		m.act(rnd, a)
		m.send(a)
		m.receive(a)
		for r.Len() < len(m.journal) {
			s.put(r.Len(), m.journal[r.Len()])
		}
		if step%7 == 0 {
			s.remark(rnd)
		}
		s.agree(fmt.Sprintf("journal, step %d", step))
	}
	if r.Len() < 50 {
		t.Fatalf("the journal has %d commands only", r.Len())
	}
}
