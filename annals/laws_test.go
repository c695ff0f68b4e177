package annals_test

import (
	"testing"

	"redraft/annals"
	"redraft/api"
	"redraft/desk"
)

// laws: what the chapter says that follows, of the answers alone.
func laws(t *testing.T, what string, r *desk.Replica) {
	t.Helper()
	sums(t, what, r)
	blameIsOfAuthor(t, what, r)
	noChange(t, what, r)
	oneMore(t, what, r)
	hidersAreCounted(t, what, r)
}

func sums(t *testing.T, what string, r *desk.Replica) {
	t.Helper()
	list, _ := annals.Tallies(r)
	made, cells, visible := 0, 0, 0
	for i, x := range list {
		made, cells, visible = made+x.Made, cells+x.Cells, visible+x.Visible
		if i > 0 && x.Client <= list[i-1].Client {
			t.Errorf("P18.7: %s: the clients don't rise: %v", what, list)
		}
	}
	if made != r.Len() || cells != r.Total() || visible != r.Shown() {
		t.Errorf("P18.10: %s: sums %d, %d, %d, want %d, %d, %d", what, made, cells, visible, r.Len(), r.Total(), r.Shown())
	}
	runes := map[api.ID]int{}
	pieces, _ := annals.Blame(r)
	for _, p := range pieces {
		runes[p.ID] += len([]rune(p.Text))
	}
	hid := counters(r)
	for i := range r.Len() {
		if x, _ := r.Entry(i); x.Kind == api.Ins && runes[x.ID] != visibleOf(hid, x) {
			t.Errorf("P18.10: %s: %d runes by %v, want %d", what, runes[x.ID], x.ID, visibleOf(hid, x))
		}
	}
}

// counters: of all cells, as the view tells them.
func counters(r *desk.Replica) []int {
	var hid []int
	for _, run := range r.Runs() {
		for range []rune(run.Text) {
			hid = append(hid, run.Hid)
		}
	}
	return hid
}

// visibleOf: how many of the edit's cells are visible.
func visibleOf(hid []int, x api.Entry) int {
	n := 0
	for _, s := range x.Ranges {
		for _, h := range hid[s.Lo:s.Hi] {
			if h == 0 {
				n++
			}
		}
	}
	return n
}

func blameIsOfAuthor(t *testing.T, what string, r *desk.Replica) {
	t.Helper()
	pieces, _ := annals.Blame(r)
	p, text := 0, ""
	for i, x := range pieces {
		if i > 0 && x.ID == pieces[i-1].ID || x.Text == "" {
			t.Errorf("P18.2: %s: not the fewest pieces: %v", what, pieces)
		}
		text += x.Text
		for range []rune(x.Text) {
			if id, e := annals.Author(r, p); id != x.ID || e != api.OK {
				t.Errorf("P18.11: %s: Author(%d) = %v, %d, want %v", what, p, id, int(e), x.ID)
			}
			p++
		}
	}
	if text != r.Text() {
		t.Errorf("P18.2: %s: all pieces together are %q, want %q", what, text, r.Text())
	}
}

func noChange(t *testing.T, what string, r *desk.Replica) {
	t.Helper()
	for k := range r.Len() + 1 {
		list, e := annals.Changes(r, k, k)
		text, _ := annals.At(r, k)
		var want []api.Change
		if text != "" {
			want = []api.Change{{Text: text, Was: true, Is: true}}
		}
		same(t, "P18.12: "+what+": Changes(k, k)", list, e, want, api.OK)
	}
}

func oneMore(t *testing.T, what string, r *desk.Replica) {
	t.Helper()
	ops, _ := r.Ops(0, r.Len())
	for k, o := range ops {
		list, _ := annals.Changes(r, k, k+1)
		gone, come, text := 0, 0, ""
		for _, c := range list {
			if c.Was && !c.Is {
				gone++
			}
			if c.Is && !c.Was {
				come++
				text += c.Text
			}
		}
		if o.Kind == api.Ins && (gone != 0 || come != 1 || text != o.Text) {
			t.Errorf("P18.12: %s: Changes(%d, %d) of an Ins of %q = %v", what, k, k+1, o.Text, list)
		}
		if gone > 0 && come > 0 {
			t.Errorf("P18.12: %s: Changes(%d, %d) of %v = %v", what, k, k+1, o, list)
		}
	}
}

func hidersAreCounted(t *testing.T, what string, r *desk.Replica) {
	t.Helper()
	for at, n := range counters(r) {
		if list, e := annals.Hiders(r, at); len(list) != n || e != api.OK {
			t.Errorf("P18.4: %s: Hiders(%d) = %v, %d, but the counter is %d", what, at, list, int(e), n)
		}
	}
}
