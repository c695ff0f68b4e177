package annals_test

import (
	"testing"

	"redraft/annals"
	"redraft/api"
	"redraft/client"
	"redraft/desk"
	"redraft/disk"
	"redraft/server"
)

// A view is asked alike, whoever embeds it.

func lim() api.Limits { return api.Limits{Clients: 3, Cells: 99, Ops: 99} }

func did(t *testing.T) func(api.Op, error) {
	return func(_ api.Op, err error) {
		t.Helper()
		if err != nil {
			t.Fatal(err)
		}
	}
}

func TestDesk(t *testing.T) {
	d, err := desk.New(1, lim())
	if err != nil {
		t.Fatal(err)
	}
	seen := func(what string) {
		t.Helper()
		agree(t, what, &d.Replica, orderOf(t, &d.Replica))
	}
	seen("a new desk")
	did(t)(d.Insert(0, "abc"))
	did(t)(d.Delete(1, 1))
	seen("a desk with pending commands")
	if err := d.Take(ins(2, 1, 0, "XY")); err != nil { // ahead of the pending ones
		t.Fatal(err)
	}
	seen("a desk that has taken another's command")
	if err := d.Take(hide(2, 2, 0, 1)); err != nil {
		t.Fatal(err)
	}
	did(t)(d.Undo())
	did(t)(d.Turn(api.ID{2, 2}, false))
	if err := d.Confirm(api.ID{1, 1}); err != nil {
		t.Fatal(err)
	}
	seen("a desk behind undo, turn and confirm")
	list, e := annals.Blame(&d.Replica)
	same(t, "P18.2: Blame of a desk", list, e, []api.Piece{piece(2, 1, "XY"), piece(1, 1, "abc")}, api.OK)
	tallies, e := annals.Tallies(&d.Replica)
	same(t, "P18.7: Tallies of a desk", tallies, e, []api.Tally{tally(1, 4, 3, 3, 1, 0), tally(2, 2, 2, 2, 1, 0)}, api.OK)
	if d.Received() != 3 || d.Text() != "XYabc" || len(d.Pending()) != 3 {
		t.Errorf("P18.1: asking has changed the desk: %d received, %q", d.Received(), d.Text())
	}
}

// room: a server and two clients, and all that they have to tell one another.
type room struct {
	t *testing.T
	s *server.Server
	c [3]*client.Client // by their numbers
}

func newRoom(t *testing.T) *room {
	t.Helper()
	d, e := disk.New(1 << 20)
	if e != api.OK {
		t.Fatal(e)
	}
	s, err := server.Boot(d, lim())
	if err != nil {
		t.Fatal(err)
	}
	m := &room{t: t, s: s}
	for n := 1; n <= 2; n++ {
		if m.c[n], err = client.New(n, lim()); err != nil {
			t.Fatal(err)
		}
	}
	return m
}

// round: all tick once, and nothing is lost.
func (m *room) round() {
	m.t.Helper()
	for n := 1; n <= 2; n++ {
		for _, p := range m.c[n].Tick() {
			if err := m.s.Handle(p.Bytes); err != nil {
				m.t.Fatal(err)
			}
		}
	}
	packets, err := m.s.Tick()
	if err != nil {
		m.t.Fatal(err)
	}
	for _, p := range packets {
		if err := m.c[p.To].Handle(p.Bytes); err != nil && api.Code(err) != api.ErrOld {
			m.t.Fatal(err)
		}
	}
}

// seen: the views of all three, asked.
func (m *room) seen(what string) {
	m.t.Helper()
	for _, r := range []*desk.Replica{&m.s.Replica, &m.c[1].Replica, &m.c[2].Replica} {
		agree(m.t, what, r, orderOf(m.t, r))
	}
}

func TestServerAndClient(t *testing.T) {
	m := newRoom(t)
	m.seen("a new room")
	did(t)(m.c[1].Insert(0, "abc"))
	did(t)(m.c[2].Insert(0, "XYZ"))
	m.seen("a room with pending commands")
	m.round()
	m.seen("a room behind one round")
	did(t)(m.c[1].Delete(1, 2))
	did(t)(m.c[2].Delete(0, 1))
	for range 12 {
		m.round()
	}
	did(t)(m.c[2].Turn(api.ID{1, 1}, false))
	did(t)(m.c[1].Undo())
	m.seen("a room whose clients differ")
	for range 12 {
		m.round()
	}
	m.seen("a room that is settled")
	if m.s.Len() != 6 {
		t.Errorf("the server has %d commands", m.s.Len())
	}
	want, _ := annals.Blame(&m.s.Replica)
	wantT, _ := annals.Tallies(&m.s.Replica)
	for n := 1; n <= 2; n++ {
		list, e := annals.Blame(&m.c[n].Replica)
		same(t, "P18.2: Blame of a client", list, e, want, api.OK)
		tallies, e := annals.Tallies(&m.c[n].Replica)
		same(t, "P18.7: Tallies of a client", tallies, e, wantT, api.OK)
		for k := range m.s.Len() + 1 {
			text, e := annals.At(&m.c[n].Replica, k)
			served, _ := annals.At(&m.s.Replica, k)
			same(t, "P18.5: At of a client", text, e, served, api.OK)
		}
	}
}

// A Replay goes on with what the client had when it was made, whatever comes to the client meanwhile.
func TestReplayOfAClient(t *testing.T) {
	m := newRoom(t)
	did(t)(m.c[1].Insert(0, "abc"))
	did(t)(m.c[2].Insert(0, "XYZ"))
	did(t)(m.c[2].Delete(1, 1))
	all := annals.Replay(&m.c[2].Replica)
	want := expected([]string{"", "XYZ", "XZ"})
	var got []string
	for k, text := range all {
		got = append(got, given(annals.Replay(&m.c[2].Replica))...)
		if k == 0 {
			same(t, "P18.8: Replay of a client", got, api.OK, want, api.OK)
		}
		if text != []string{"", "XYZ", "XZ"}[k] {
			t.Errorf("P18.8: Replay of a client gives %d, %q", k, text)
		}
		m.round()
		m.round()
	}
	same(t, "P18.8: Replay of a client, later", given(all), api.OK, want, api.OK)
	if m.c[2].Len() != 3 || m.c[2].Received() == 0 {
		t.Errorf("nothing has come to the client")
	}
	m.seen("the room behind it")
}
