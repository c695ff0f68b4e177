package desk_test

import (
	"math"
	"slices"
	"strings"
	"testing"

	"redraft/api"
	"redraft/desk"
)

func TestP8_6Limits(t *testing.T) {
	greatest := [3]int{api.MaxClients, api.MaxCells, api.MaxOps}
	for part, most := range greatest {
		for _, n := range []int{math.MinInt, -1, 0, 1, 2, most - 1, most, most + 1, math.MaxInt} {
			fields := [3]int{1, 1, 1}
			fields[part] = n
			lim := room(fields[0], fields[1], fields[2])
			want := api.OK
			if n < 1 || n > most {
				want = api.ErrLimits
			}
			d, err := desk.New(1, lim)
			answers(t, err, "New", 1, want)
			if (d == nil) != (want != api.OK) {
				t.Errorf("P8.6: New(1, %v) answers a desk: %v", lim, d != nil)
			}
			d, err = desk.New(0, lim)
			if want == api.OK {
				want = api.ErrUser
			}
			answers(t, err, "New", 0, want)
			if d != nil {
				t.Errorf("P8.6: New(0, %v) answers a desk", lim)
			}
		}
	}
	d, err := desk.New(9, room(9, 1, 1))
	answers(t, err, "New", 9, api.ErrLimits)
	if d != nil {
		t.Errorf("P8.6: New beside its limits answers a desk")
	}
}

func TestP8_6Users(t *testing.T) {
	for clients := 1; clients <= api.MaxClients; clients++ {
		for _, user := range []int{math.MinInt, -1, 0, 1, clients - 1, clients, clients + 1, api.MaxClients + 1, math.MaxInt} {
			d, err := desk.New(user, room(clients, 4096, 1024))
			if user < 1 || user > clients {
				answers(t, err, "New", user, api.ErrUser)
				if d != nil {
					t.Errorf("P8.6: New(%d) answers a desk", user)
				}
				continue
			}
			answers(t, err, "New", user, api.OK)
			(&seat{t, d, newModel(user, room(clients, 4096, 1024))}).is("P8.6: an empty desk")
		}
	}
	a, b := sit(t, 1, room(2, 9, 9)), sit(t, 1, room(2, 9, 9))
	a.insert(0, "a")
	b.is("P8.6: a desk with another in use")
}

// The user's own cells: those that are hidden or off count, others' do not, refused ones do not.
func TestP8_7Cells(t *testing.T) {
	s := sit(t, 2, room(3, 6, 99))
	s.take(ins(1, 1, 0, "other"))
	s.insert(5, "äöü")
	s.delete(5, 1)
	allRefused(t, s, insertCall(0, "1234", api.ErrCells))
	s.insert(0, "12")
	s.undo()
	allRefused(t, s, insertCall(0, "12", api.ErrCells))
	s.turn(api.ID{1, 1}, false)
	s.take(ins(3, 1, 0, "third"))
	s.confirm(api.ID{2, 1})
	allRefused(t, s, insertCall(0, "12", api.ErrCells), insertCall(7, "ab", api.ErrCells))
	if _, e := s.insert(0, "€"); e != api.OK {
		t.Errorf("P8.7: the last cell: %d", e)
	}
	allRefused(t, s, insertCall(0, "x", api.ErrCells))
	if _, e := s.delete(0, 1); e != api.OK { // no cells, but commands are left
		t.Errorf("P8.8: Delete of a user without cells: %d", e)
	}
	s.is("P8.7: all cells")
}

// Others' cells: each client has its own count, of its inserts in the view, off or on; Width is asked.
func TestP8_12Cells(t *testing.T) {
	s := sit(t, 2, room(4, 6, 99))
	s.insert(0, "123456")
	for _, o := range []api.Op{ins(1, 1, 0, "äöü"), ins(3, 1, 0, "abcdef"), ins(1, 2, 3, "xy"), status(3, 2, api.ID{1, 1}, false), hide(3, 3, 0, 2)} {
		if e := s.take(o); e != api.OK {
			t.Fatalf("P8.12: Take(%v) = %d", o, e)
		}
	}
	allRefused(t, s, takeCall(5, ins(1, 3, 0, "12"), api.ErrCells), takeCall(5, ins(3, 4, 0, "1"), api.ErrCells), takeCall(5, ins(4, 1, 0, "1234567"), api.ErrCells))
	for _, o := range []api.Op{ins(1, 3, 0, "1"), hide(3, 4, 0, 2), ins(4, 1, 0, "123456")} {
		if e := s.take(o); e != api.OK {
			t.Errorf("P8.12: Take(%v) = %d", o, e)
		}
	}
	allRefused(t, s, takeCall(8, ins(1, 4, 0, "1"), api.ErrCells))
	s.is("P8.12: all cells")
}

// Numbers of commands: the user's own and others', each at its bound.
func TestOpsBounds(t *testing.T) {
	s := sit(t, 1, room(2, 9, 3))
	s.insert(0, "ab")
	s.move(1)
	s.undo()
	allRefused(t, s, insertCall(9, "", api.ErrPlace))
	if _, e := s.redo(); e != api.OK {
		t.Errorf("P8.10: the last command: %d", e)
	}
	allRefused(t, s, insertCall(0, "c", api.ErrOps), deleteCall(0, 1, api.ErrOps), undoCall(api.ErrOps), redoCall(api.ErrOps), turnCall(api.ID{1, 1}, false, api.ErrOps))
	if e := s.take(ins(2, 3, 0, "x")); e != api.OK { // no number that is missing ahead of it is asked for here
		t.Errorf("P8.12: Take of number lim.Ops = %d", e)
	}
	allRefused(t, s, takeCall(1, ins(2, 4, 0, "x"), api.ErrOps))
	if e := s.take(ins(2, 1, 0, "y")); e != api.OK {
		t.Errorf("P8.12: Take of a lower number = %d", e)
	}
	s.is("three commands each")
}

// The greatest room there is: all its commands come to one desk, and all its cells.
func TestGreatestRoom(t *testing.T) {
	d, err := desk.New(3, room(api.MaxClients, api.MaxCells, api.MaxOps))
	if err != nil {
		t.Fatal(err)
	}
	text := strings.Repeat("0123456789abcdef", 16)
	for number := 1; number <= api.MaxOps; number++ {
		for client := 1; client <= api.MaxClients; client++ {
			ownOrOther(t, d, client, number, text)
		}
	}
	if d.Len() != 8192 || d.Total() != 32768 || d.Received() != 8192 {
		t.Fatalf("P8.12: %d commands, %d cells, %d received", d.Len(), d.Total(), d.Received())
	}
	was := shortlyTold(d)
	_, err = d.Insert(0, "x")
	answers(t, err, "Insert", 0, api.ErrOps)
	_, err = d.Undo()
	answers(t, err, "Undo", 0, api.ErrOps)
	answers(t, d.Take(ins(3, 1, 0, "x")), "Take", 8192, api.ErrUser)
	answers(t, d.Take(ins(1, 1025, 0, "x")), "Take", 8192, api.ErrOps)
	answers(t, d.Take(ins(1, 1, 0, "x")), "Take", 8192, api.ErrCells)
	answersTwice(t, d.Take(hide(1, 1, 0, 1)), 8192, api.ErrOps) // the Replica is full: Put says so ahead of ErrTwice
	answersTwice(t, d.Take(hide(1, -1)), 8192, api.ErrOps)
	if !slices.Equal(shortlyTold(d), was) {
		t.Errorf("P8.5: refused calls have changed the greatest room")
	}
}

// ownOrOther: the command of that number, and its number comes back. The first sixteen of each client are inserts, which make all its cells.
func ownOrOther(t *testing.T, d *desk.Desk, client, number int, text string) {
	t.Helper()
	own := client == d.User()
	var err error
	switch {
	case own && number <= 16:
		_, err = d.Insert(d.Shown(), text)
	case own && number%2 == 1:
		_, err = d.Undo()
	case own:
		_, err = d.Redo()
	case number <= 16:
		err = d.Take(ins(client, number, d.Total(), text))
	default:
		err = d.Take(status(client, number, api.ID{client, 1 + number%16}, number%3 == 0))
	}
	if own && err == nil {
		err = d.Confirm(api.ID{client, number})
	}
	if err != nil {
		t.Fatalf("number %d of client %d: %v", number, client, err)
	}
}

// shortlyTold: what a great desk tells in short.
func shortlyTold(d *desk.Desk) []int {
	undo, redo := d.Stacks()
	return []int{d.Len(), d.Total(), d.Shown(), d.Received(), d.Gap(), d.Caret(), len(undo), len(redo), len(d.Pending())}
}
