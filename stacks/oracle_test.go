package stacks_test

import (
	"slices"
	"testing"

	"redraft/api"
	"redraft/history"
	"redraft/stacks"
)

// The oracle keeps no rows and asks no history: each id that stands in a stack has a note of when it came there, and the world's flags are a table beside the history.

// stood: in which stack an id stands, and the moment at which it came there.
type stood struct {
	redo bool
	when int
}

type model struct {
	at  map[api.ID]stood
	now int
}

func newModel() *model { return &model{at: map[api.ID]stood{}} }

func (m *model) place(id api.ID, redo bool) {
	m.now++
	m.at[id] = stood{redo, m.now}
}

func (m *model) did(id api.ID) api.Errno {
	for part, bound := range [2]int{api.MaxClients, api.MaxOps} {
		if id[part] < 1 || id[part] > bound {
			return api.ErrID
		}
	}
	if _, there := m.at[id]; there {
		return api.ErrTwice
	}
	for other, s := range m.at {
		if s.redo {
			delete(m.at, other)
		}
	}
	m.place(id, false)
	return api.OK
}

// What an id is in a history.
const (
	missing = iota // the history does not have it
	named          // a Status has it
	isOn
	isOff
)

// moved: Undo, or Redo, where the ids are what the table says.
func (m *model) moved(redo bool, is map[api.ID]int) (api.ID, api.Errno) {
	want := isOn
	if redo {
		want = isOff
	}
	var top api.ID
	latest := 0
	for id, s := range m.at {
		if s.redo == redo && is[id] == want && s.when > latest {
			top, latest = id, s.when
		}
	}
	if latest == 0 {
		return api.ID{}, api.ErrStack
	}
	m.place(top, !redo)
	return top, api.OK
}

func (m *model) stack(redo bool) []api.ID {
	var out []api.ID
	for id, s := range m.at {
		if s.redo == redo {
			out = append(out, id)
		}
	}
	slices.SortFunc(out, func(a, b api.ID) int { return m.at[a].when - m.at[b].when })
	return out
}

// ids: of one client.
func ids(client int, numbers ...int) []api.ID {
	var out []api.ID
	for _, n := range numbers {
		out = append(out, api.ID{client, n})
	}
	return out
}

// holds: both stacks are these, the topmost last.
func holds(t *testing.T, s *stacks.Stacks, undo, redo []api.ID, what string) {
	t.Helper()
	if u, r := s.Lists(); !slices.Equal(u, undo) || !slices.Equal(r, redo) {
		t.Errorf("%s: the stacks are %v; %v, want %v; %v", what, u, r, undo, redo)
	}
}

// agree: the stacks are the oracle's.
func agree(t *testing.T, s *stacks.Stacks, m *model, what string) {
	t.Helper()
	holds(t, s, m.stack(false), m.stack(true), what)
}

// filled: stacks on which these were done, one behind the other.
func filled(t *testing.T, list ...api.ID) *stacks.Stacks {
	t.Helper()
	s := stacks.New()
	for _, id := range list {
		if e := s.Did(id); e != api.OK {
			t.Fatalf("P7.3: Did(%v) = %d", id, e)
		}
	}
	return s
}

// move: Undo, or Redo.
func move(s *stacks.Stacks, redo bool, h *history.History) (api.ID, api.Errno) {
	if redo {
		return s.Redo(h)
	}
	return s.Undo(h)
}

func promise(redo bool) string {
	if redo {
		return "P7.5: Redo"
	}
	return "P7.4: Undo"
}

// moves: Undo, or Redo, answers this.
func moves(t *testing.T, s *stacks.Stacks, redo bool, h *history.History, want api.ID, e api.Errno) {
	t.Helper()
	if id, f := move(s, redo, h); id != want || f != e {
		t.Errorf("%s = %v, %d, want %v, %d", promise(redo), id, f, want, e)
	}
}
