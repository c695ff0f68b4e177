package stacks_test

import (
	"reflect"
	"testing"

	"redraft/api"
	"redraft/history"
)

// put: o behind all commands.
func put(t *testing.T, h *history.History, o api.Op) {
	t.Helper()
	if _, e := h.Put(h.Len(), o); e != api.OK {
		t.Fatalf("Put(%v) = %d", o, e)
	}
}

func ins(id api.ID, at int, text string) api.Op {
	return api.Op{Head: api.Head{ID: id, Kind: api.Ins}, At: at, Text: text}
}

func hide(id api.ID, lo, hi int) api.Op {
	return api.Op{Head: api.Head{ID: id, Kind: api.Hide}, Ranges: []api.Range{{Lo: lo, Hi: hi}}}
}

func status(id, target api.ID, on bool) api.Op {
	return api.Op{Head: api.Head{ID: id, Kind: api.Status}, Target: target, On: on}
}

// turn: a Status of the client on that edit, behind all commands.
func turn(t *testing.T, h *history.History, client int, target api.ID, on bool) {
	t.Helper()
	put(t, h, status(api.ID{client, h.Last(client) + 1}, target, on))
}

// ground: a command of nobody that the tests ask for, with cells to hide.
var ground = api.ID{api.MaxClients, 1}

// written: a history in which each id is what the table says, an Ins and a Hide in turns. Others turn what is off.
func written(t *testing.T, list []api.ID, is map[api.ID]int) *history.History {
	t.Helper()
	h := history.New()
	put(t, h, ins(ground, 0, "ground"))
	for i, id := range list {
		switch {
		case is[id] == named:
			put(t, h, status(id, ground, true))
		case is[id] != missing && i%2 == 0:
			put(t, h, ins(id, i%5, "x"))
		case is[id] != missing:
			put(t, h, hide(id, i%5, i%5+1))
		}
		if is[id] == isOff {
			turn(t, h, api.MaxClients, id, false)
		}
	}
	return h
}

// told: all that a history answers to those who ask.
func told(t *testing.T, h *history.History) []any {
	t.Helper()
	run, e := h.Ops(0, h.Len())
	if e != api.OK {
		t.Fatalf("Ops = %d", e)
	}
	out := []any{h.Len(), h.Total(), run}
	for i := range h.Len() {
		entry, e := h.Entry(i)
		out = append(out, entry, e)
	}
	return out
}

// unchanged: the history tells the same as ahead of the call.
func unchanged(t *testing.T, h *history.History, was []any, what string) {
	t.Helper()
	if now := told(t, h); !reflect.DeepEqual(now, was) {
		t.Errorf("P7.1: %s has changed the history: %v, was %v", what, now, was)
	}
}
