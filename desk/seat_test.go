package desk_test

import (
	"errors"
	"fmt"
	"reflect"
	"slices"
	"testing"

	"redraft/api"
	"redraft/desk"
	"redraft/op"
)

func room(clients, cells, ops int) api.Limits {
	return api.Limits{Clients: clients, Cells: cells, Ops: ops}
}

func ins(client, number, at int, text string) api.Op {
	return api.Op{Head: api.Head{ID: api.ID{client, number}, Kind: api.Ins}, At: at, Text: text}
}

func hide(client, number int, ends ...int) api.Op {
	return api.Op{Head: api.Head{ID: api.ID{client, number}, Kind: api.Hide}, Ranges: list(ends...)}
}

func status(client, number int, target api.ID, on bool) api.Op {
	return api.Op{Head: api.Head{ID: api.ID{client, number}, Kind: api.Status}, Target: target, On: on}
}

// effect: an operation without an id.
func effect(kind api.Kind, at int, text string, ends ...int) api.Op {
	return api.Op{Head: api.Head{Kind: kind}, At: at, Text: text, Ranges: list(ends...)}
}

// list: the ranges whose ends are the numbers, two by two.
func list(ends ...int) []api.Range {
	var out []api.Range
	for i := 0; i < len(ends); i += 2 {
		out = append(out, api.Range{Lo: ends[i], Hi: ends[i+1]})
	}
	return out
}

// ids: of one client.
func ids(client int, numbers ...int) []api.ID {
	var out []api.ID
	for _, n := range numbers {
		out = append(out, api.ID{client, n})
	}
	return out
}

// answers: is err what a call with this name and place answers that met e (nil of OK)?
func answers(t *testing.T, err error, call string, at int, e api.Errno) {
	t.Helper()
	if e == api.OK {
		if err != nil {
			t.Errorf("%s = %v, want nil", call, err)
		}
		return
	}
	f, ok := err.(*api.Fault)
	if !ok || f == nil || *f != (api.Fault{Call: call, At: at, Err: e}) {
		t.Errorf("P8.1, P8.5: %s = %v, want a Fault of %s at %d with %d alone in it", call, err, call, at, int(e))
		return
	}
	asked(t, err, e)
}

// answersTwice: is err what Take answers if Put(at, ..) met e?
func answersTwice(t *testing.T, err error, at int, e api.Errno) {
	t.Helper()
	f, ok := err.(*api.Fault)
	if !ok || f == nil || f.Call != "Take" || f.At != at {
		t.Errorf("P8.5: Take = %v, want a Fault of Take at %d", err, at)
		return
	}
	answers(t, f.Err, "Put", at, e)
	asked(t, err, e)
}

// asked: is e what one finds in err, by whatever way one asks?
func asked(t *testing.T, err error, e api.Errno) {
	t.Helper()
	var n api.Errno
	var f *api.Fault
	if !errors.Is(err, e) || !errors.As(err, &n) || n != e || api.Code(err) != e || !errors.As(err, &f) || error(f) != err {
		t.Errorf("P8.5: %v does not tell %d to those who ask", err, int(e))
	}
}

// made: is this the command that a call made, or the zero Op?
func made(t *testing.T, what string, got, want api.Op) {
	t.Helper()
	if !op.Equal(got, want) {
		t.Errorf("%s = %v, want %v", what, got, want)
	}
}

// seat: a desk, and the oracle beside it.
type seat struct {
	t *testing.T
	d *desk.Desk
	m *model
}

func sit(t *testing.T, user int, lim api.Limits) *seat {
	t.Helper()
	d, err := desk.New(user, lim)
	if err != nil || d == nil {
		t.Fatalf("P8.6: New(%d, %v) = %v", user, lim, err)
	}
	return &seat{t, d, newModel(user, lim)}
}

func (s *seat) insert(p int, text string) (api.Op, api.Errno) {
	s.t.Helper()
	want, e := s.m.insert(p, text)
	got, err := s.d.Insert(p, text)
	answers(s.t, err, "Insert", p, e)
	made(s.t, fmt.Sprintf("P8.7: Insert(%d, %q)", p, text), got, want)
	return got, e
}

func (s *seat) delete(p, n int) (api.Op, api.Errno) {
	s.t.Helper()
	want, e := s.m.delete(p, n)
	got, err := s.d.Delete(p, n)
	answers(s.t, err, "Delete", p, e)
	made(s.t, fmt.Sprintf("P8.8: Delete(%d, %d)", p, n), got, want)
	return got, e
}

func (s *seat) move(p int) api.Errno {
	s.t.Helper()
	e := s.m.move(p)
	answers(s.t, s.d.Move(p), "Move", p, e)
	return e
}

func (s *seat) undo() (api.Op, api.Errno) {
	s.t.Helper()
	want, e := s.m.step(false)
	got, err := s.d.Undo()
	answers(s.t, err, "Undo", 0, e)
	made(s.t, "P8.10: Undo()", got, want)
	return got, e
}

func (s *seat) redo() (api.Op, api.Errno) {
	s.t.Helper()
	want, e := s.m.step(true)
	got, err := s.d.Redo()
	answers(s.t, err, "Redo", 0, e)
	made(s.t, "P8.10: Redo()", got, want)
	return got, e
}

func (s *seat) turn(id api.ID, on bool) (api.Op, api.Errno) {
	s.t.Helper()
	want, e := s.m.turn(id, on)
	got, err := s.d.Turn(id, on)
	answers(s.t, err, "Turn", 0, e)
	made(s.t, fmt.Sprintf("P8.11: Turn(%v, %v)", id, on), got, want)
	return got, e
}

func (s *seat) take(o api.Op) api.Errno {
	s.t.Helper()
	at := s.m.received
	e, twice := s.m.take(o)
	if err := s.d.Take(o); twice {
		answersTwice(s.t, err, at, e)
	} else {
		answers(s.t, err, "Take", at, e)
	}
	return e
}

func (s *seat) confirm(id api.ID) api.Errno {
	s.t.Helper()
	e := s.m.confirm(id)
	answers(s.t, s.d.Confirm(id), "Confirm", 0, e)
	return e
}

// is: does the desk tell all that the oracle does?
func (s *seat) is(what string) {
	s.t.Helper()
	d, m := s.d, s.m
	if d.User() != m.user || d.Received() != m.received || d.Gap() != m.gap() || d.Caret() != m.caret() {
		s.t.Errorf("%s: P8.14, P8.15: user %d, received %d, gap %d, caret %d, want %d, %d, %d, %d", what, d.User(), d.Received(), d.Gap(), d.Caret(), m.user, m.received, m.gap(), m.caret())
	}
	undo, redo := d.Stacks()
	if !slices.Equal(undo, m.undo) || !slices.Equal(redo, m.redo) {
		s.t.Errorf("%s: P8.14: stacks %v, %v, want %v, %v", what, undo, redo, m.undo, m.redo)
	}
	if p, want := d.Pending(), m.ops()[m.received:]; !slices.EqualFunc(p, want, op.Equal) {
		s.t.Errorf("%s: P8.14: pending %v, want %v", what, p, want)
	}
	agree(s.t, &d.Replica, m.order, what)
}

// agree: does the view tell what the order makes, by DOC.md's rules?
func agree(t *testing.T, r *desk.Replica, w order, what string) {
	t.Helper()
	if got := r.Text(); got != w.text() {
		t.Errorf("%s: P8.3, P8.15: text %q, want %q", what, got, w.text())
	}
	if got := r.Runs(); !slices.Equal(got, w.runs()) {
		t.Errorf("%s: P8.3, P8.4: runs %v, want %v", what, got, w.runs())
	}
	if r.Shown() != len(w.visible()) || r.Total() != len(w.today()) || r.Len() != len(w) {
		t.Errorf("%s: P8.3: shown %d, total %d, len %d, want %d, %d, %d", what, r.Shown(), r.Total(), r.Len(), len(w.visible()), len(w.today()), len(w))
	}
	got, err := r.Ops(0, len(w))
	if want := w.ops(); err != nil || !slices.EqualFunc(got, want, op.Equal) {
		t.Errorf("%s: P8.3: ops %v, %v, want %v", what, got, err, want)
	}
	for i, m := range w {
		x, err := r.Entry(i)
		n, err2 := r.Find(m.ID)
		if err != nil || err2 != nil || n != i || !sameEntry(x, w.entry(i)) {
			t.Errorf("%s: P8.3: entry %d = %v, %v, found at %d, %v, want %v", what, i, x, err, n, err2, w.entry(i))
		}
	}
}

func sameEntry(a, b api.Entry) bool {
	same := slices.Equal(a.Ranges, b.Ranges)
	a.Ranges, b.Ranges = nil, nil
	return same && reflect.DeepEqual(a, b)
}

// told: all that a desk tells.
func told(d *desk.Desk) string {
	undo, redo := d.Stacks()
	return fmt.Sprint(d.User(), d.Received(), d.Gap(), d.Caret(), undo, redo, d.Pending(), toldView(&d.Replica))
}

// toldView: all that a view tells.
func toldView(r *desk.Replica) string {
	run, err := r.Ops(0, r.Len())
	out := fmt.Sprintf("%q %v %d %d %d %v %v", r.Text(), r.Runs(), r.Shown(), r.Total(), r.Len(), run, err)
	for i, o := range run {
		x, err := r.Entry(i)
		n, err2 := r.Find(o.ID)
		left, err3 := r.Erase(o.ID)
		out += fmt.Sprint(x, err, n, err2, left, err3)
	}
	return out
}
