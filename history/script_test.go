package history_test

import (
	"math/rand"
	"slices"
	"testing"

	"redraft/api"
	"redraft/history"
	"redraft/op"
	"redraft/rope"
)

// pair: a history, the rope of its effects (P6.11), and what the oracle has of both.
type pair struct {
	h *history.History
	r *rope.Rope
	w order
}

func newPair() *pair { return &pair{h: history.New(), r: rope.New()} }

// put: into all three, compared.
func (p *pair) put(t *testing.T, i int, o api.Op) {
	t.Helper()
	x, e := p.h.Put(i, o)
	next, want, f := p.w.wantPut(i, o)
	sameOp(t, x, e, want, f, "P6.3: Put(%d, %v) into %v", i, o, p.w.ops())
	p.w = next
	if e == api.OK {
		apply(t, p.r, x)
	}
}

// apply: an effect, which no rope may refuse.
func apply(t *testing.T, r *rope.Rope, x api.Op) {
	t.Helper()
	if x.Kind == 0 {
		return
	}
	if e := op.Apply(r, x); e != api.OK {
		t.Error(cut("P6.11: the effect %v is refused with %d", x, int(e)))
	}
}

// randomPut: a place in the order and an operation that most times may stand there.
func (p *pair) randomPut(r *rand.Rand) (int, api.Op) {
	i := r.Intn(len(p.w) + 1)
	if r.Intn(2) == 0 {
		i = len(p.w)
	}
	row := p.w.row(i)
	client := 1 + r.Intn(4)
	number := p.w.wantLast(client) + 1
	switch r.Intn(7) {
	case 0, 1, 2:
		return i, ins(client, number, r.Intn(len(row)+1), string([]rune("abcdefgh")[:1+r.Intn(4)]))
	case 3, 4:
		var at []int
		for q := range row {
			if r.Intn(3) > 0 {
				at = append(at, q)
			}
		}
		o := hide(client, number)
		o.Ranges = rangesOf(at)
		return i, o
	}
	if i == 0 || r.Intn(20) == 0 {
		return i, status(client, number, api.ID{1 + r.Intn(4), 1 + r.Intn(5)}, r.Intn(2) == 0)
	}
	return i, status(client, number, p.w[r.Intn(i)].ID, r.Intn(2) == 0)
}

// spoilt: the same, but wrong most times.
func spoilt(r *rand.Rand, w order, i int, o api.Op) (int, api.Op) {
	switch r.Intn(8) {
	case 0:
		i = []int{-1, len(w) + 1, len(w) + 2}[r.Intn(3)]
	case 1:
		o.At = len(w.row(i)) + r.Intn(3) - 1
	case 2:
		o.Ranges = append(slices.Clone(o.Ranges), api.Range{Lo: r.Intn(5), Hi: r.Intn(9)})
	case 3:
		o.Kind = api.Kind(r.Intn(6))
	case 4:
		o.ID = api.ID{r.Intn(3), r.Intn(3)}
	case 5:
		o.Target = api.ID{r.Intn(4), r.Intn(4)}
	case 6:
		o.Text = []string{"", "\xff", "q"}[r.Intn(3)]
	case 7:
		o.On = !o.On
	}
	return i, o
}

// holds: P6.10, P6.11, P6.13 and P6.14 of all that stands there now.
func (p *pair) holds(t *testing.T) {
	t.Helper()
	agree(t, p.h, p.w)
	p.oneMaker(t)
	p.countersRule(t)
	p.undoAndRedo(t)
	p.asIfNever(t)
}

// oneMaker: P6.10.
func (p *pair) oneMaker(t *testing.T) {
	t.Helper()
	makers := make([]int, p.h.Total())
	run, _ := p.h.Ops(0, p.h.Len())
	for i, o := range run {
		x, _ := p.h.Entry(i)
		if o.Kind != api.Ins {
			continue
		}
		at := placesIn(x.Ranges)
		if len(at) != runes(o) {
			t.Error(cut("P6.10: an Ins of %d cells has the places %v", runes(o), at))
			return
		}
		for k, q := range at {
			makers[q]++
			if c, _ := p.r.Cell(q); c.Rune != []rune(o.Text)[k] {
				t.Error(cut("P6.10: place %d holds %q", q, string(c.Rune)))
			}
		}
	}
	if slices.ContainsFunc(makers, func(n int) bool { return n != 1 }) {
		t.Error(cut("P6.10: the cells of %v have so many makers: %v", run, makers))
	}
}

// countersRule: P6.11, by what the history tells and by what the oracle does.
func (p *pair) countersRule(t *testing.T) {
	t.Helper()
	if p.r.Total() != p.h.Total() {
		t.Errorf("P6.11: %d cells, the history's Total is %d", p.r.Total(), p.h.Total())
		return
	}
	want := make([]int, p.h.Total())
	for i := range p.h.Len() {
		x, _ := p.h.Entry(i)
		if x.Kind == api.Status || x.On == (x.Kind == api.Ins) {
			continue
		}
		for _, q := range placesIn(x.Ranges) {
			want[q]++
		}
	}
	var got []int
	for _, c := range p.r.Cells(0) {
		got = append(got, c.Hid)
	}
	if !slices.Equal(got, want) || !slices.Equal(got, p.w.counters()) {
		t.Error(cut("P6.11: counters of %v = %v, want %v, %v", p.w.ops(), got, want, p.w.counters()))
	}
}

// again: the same history and rope in other memory, by P6.7.
func (p *pair) again(t *testing.T) *pair {
	t.Helper()
	run, _ := p.h.Ops(0, p.h.Len())
	return replayed(t, run)
}

// replayed: the commands, each at the end of a new history, and their effects on a new rope.
func replayed(t *testing.T, run []api.Op) *pair {
	t.Helper()
	q := newPair()
	for i, o := range run {
		q.w = q.w.with(i, o)
		x, e := q.h.Put(i, o)
		if e != api.OK {
			t.Error(cut("P6.7: Put(%d, %v) is refused with %d", i, o, int(e)))
		}
		apply(t, q.r, x)
	}
	return q
}

// undoAndRedo: P6.13 of each edit.
func (p *pair) undoAndRedo(t *testing.T) {
	t.Helper()
	for i := range p.h.Len() {
		x, _ := p.h.Entry(i)
		if x.Kind == api.Status {
			continue
		}
		q := p.again(t)
		was := q.r.Runs()
		var effects []api.Op
		for k, on := range []bool{!x.On, x.On} {
			said, e := q.h.Effect(x.ID, on)
			did, f := q.h.Put(q.h.Len(), status(8, k+1, x.ID, on))
			sameOp(t, did, f, said, e, "P6.13: Put of a Status behind all on %v", x.ID)
			apply(t, q.r, did)
			effects = append(effects, did)
		}
		kinds := [2]api.Kind{effects[0].Kind, effects[1].Kind}
		if kinds != [2]api.Kind{api.Hide, api.Show} && kinds != [2]api.Kind{api.Show, api.Hide} || !slices.Equal(effects[0].Ranges, effects[1].Ranges) {
			t.Error(cut("P6.13: the effects of turning %v twice are %v", x.ID, effects))
		}
		if !slices.Equal(q.r.Runs(), was) {
			t.Error(cut("P6.13: behind both the cells are %v, were %v", q.r.Runs(), was))
		}
	}
}

// asIfNever: P6.14 of each edit.
func (p *pair) asIfNever(t *testing.T) {
	t.Helper()
	for i := range p.h.Len() {
		x, _ := p.h.Entry(i)
		left, e := p.h.Erase(x.ID)
		if e != api.OK {
			continue
		}
		r := p.r.Copy()
		if x.On {
			off, _ := p.h.Effect(x.ID, false)
			apply(t, r, off)
		}
		if got := replayed(t, left).r.Text(); got != r.Text() {
			t.Error(cut("P6.14: without %v of %v the text is %q, with it off %q", x.ID, p.w.ops(), got, r.Text()))
		}
	}
}

// Scripts of Puts at any place, right and wrong, with everything asked behind each.
func TestScripts(t *testing.T) {
	r := rand.New(rand.NewSource(606))
	for range 400 {
		p := newPair()
		for range 12 {
			i, o := p.randomPut(r)
			if r.Intn(4) == 0 {
				i, o = spoilt(r, p.w, i, o)
			}
			p.put(t, i, o)
			p.holds(t)
		}
		if t.Failed() {
			return
		}
	}
}

// Longer ones, asked at their end.
func TestLongScripts(t *testing.T) {
	r := rand.New(rand.NewSource(607))
	for range 16 {
		p := newPair()
		for range 60 {
			i, o := p.randomPut(r)
			p.put(t, i, o)
		}
		p.holds(t)
		if t.Failed() {
			return
		}
	}
}
