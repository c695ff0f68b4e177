package archive_test

import (
	"bytes"
	"math/rand"
	"testing"

	"redraft/api"
	"redraft/archive"
	"redraft/desk"
	"redraft/frame"
)

// alphabet: frames of which all short rows are tried.
func alphabet() [][]byte {
	a, h, twice := ins(1, 1, 0, "ab"), hide(1, 2, 1, 2), ins(1, 1, 1, "c")
	return [][]byte{
		headFrame(), deltaHead(0, plainSum(nil)), deltaHead(1, plainSum(plainOp(a))),
		commandFrame(0, a), commandFrame(0, h), commandFrame(1, h), commandFrame(1, twice),
		footFrame(), footFrame(a), footFrame(h), footFrame(a, h), footFrame(a, twice),
		{0xc7}, framed(),
	}
}

// All rows of up to four of these frames, asked alone; all pairs of rows that begin with a head, up to three frames each.
func TestAllShort(t *testing.T) {
	list := alphabet()
	deepest := 4
	if testing.Short() {
		deepest = 3
	}
	var headed [][]byte
	var walk func(b []byte, left int)
	walk = func(b []byte, left int) {
		holdsOne(t, b)
		if left == 0 {
			return
		}
		for _, x := range list {
			walk(join(b, x), left-1)
		}
	}
	walk(nil, deepest)
	for i, head := range list[:3] {
		for _, x := range list {
			headed = append(headed, join(head, x))
			for _, y := range list[3:] {
				if i > 0 || bytes.Equal(x, list[3]) {
					headed = append(headed, join(head, x, y))
				}
			}
		}
	}
	for _, one := range [][]byte{nil, archiveOf(), archiveOf(ins(1, 1, 0, "ab")), archiveOf(ins(1, 1, 0, "ab"), hide(1, 2, 1, 2)), archiveOf(ins(1, 1, 0, "ab"), ins(1, 1, 0, "ab")), archiveOf(ins(1, 1, 0, "ac"))} {
		for _, other := range headed {
			holdsTwo(t, one, other)
			holdsTwo(t, other, one)
		}
	}
}

// maker: makes chance views.
type maker struct {
	r    *rand.Rand
	last [api.MaxClients + 1]int
}

func newMaker(seed int64) *maker { return &maker{r: rand.New(rand.NewSource(seed))} }

func (m *maker) text() string {
	runes := make([]rune, 1+m.r.Intn(5))
	for i := range runes {
		runes[i] = []rune("abcxyz \n\t\u00e9\u20ac\U0001f600\u01dd")[m.r.Intn(13)]
	}
	return string(runes)
}

// command: one that the view takes in behind its first i commands, if chance will have it.
func (m *maker) command(v *desk.Replica, i int) api.Op {
	c := 1 + m.r.Intn(api.MaxClients)
	m.last[c]++
	ahead, _ := v.Ops(0, i)
	total := plainCells(ahead)
	switch k := m.r.Intn(5); {
	case k < 2 || total == 0:
		return ins(c, m.last[c], m.r.Intn(total+1), m.text())
	case k == 2 && i > 0:
		return status(c, m.last[c], ahead[m.r.Intn(i)].ID, m.r.Intn(2) == 0)
	}
	var ends []int
	for at := m.r.Intn(3); at < total && len(ends) < 12; at += 1 + m.r.Intn(4) {
		lo := at
		at += 1 + m.r.Intn(4)
		ends = append(ends, lo, min(at, total))
	}
	if len(ends) == 0 {
		ends = []int{0, total}
	}
	return hide(c, m.last[c], ends...)
}

// grow: up to n commands more, most at the end, some in the middle.
func (m *maker) grow(v *desk.Replica, n int) {
	for range n {
		i := v.Len()
		if m.r.Intn(4) == 0 {
			i = m.r.Intn(i + 1)
		}
		v.Put(i, m.command(v, i))
	}
}

// behind: a view of the same commands, from a new Replica, and n more at the end.
func (m *maker) behind(t *testing.T, ops []api.Op, n int) *desk.Replica {
	t.Helper()
	v := viewOfAll(t, ops)
	for range n {
		v.Put(v.Len(), m.command(v, v.Len()))
	}
	return v
}

// spoil: b, hurt in one of the ways in which bytes get hurt.
func (m *maker) spoil(b []byte) []byte {
	if len(b) == 0 {
		return []byte{0xc7, 0x9d}
	}
	at := m.r.Intn(len(b))
	list, _ := partsOf(b)
	switch m.r.Intn(9) {
	case 0:
		return turned(b, at, 1<<m.r.Intn(8))
	case 1:
		return bytes.Clone(b[:at])
	case 2:
		return bytes.Clone(b[at:])
	case 3:
		return join(b[:at], []byte{[]byte{0, 0xc7, 0x9d, 'c'}[m.r.Intn(4)]}, b[at:])
	}
	if len(list) < 2 {
		return join(b, b)
	}
	x, y := list[m.r.Intn(len(list))], list[m.r.Intn(len(list))]
	switch m.r.Intn(4) {
	case 0: // left out
		return join(b[:x.lo], b[x.hi:])
	case 1: // doubled, at another place
		return join(b[:y.lo], b[x.lo:x.hi], b[y.lo:])
	case 2: // put in another's stead
		return join(b[:y.lo], b[x.lo:x.hi], b[y.hi:])
	}
	p := []byte(x.payload) // written anew, in a right frame
	if len(p) > 0 {
		p[m.r.Intn(len(p))] ^= 1 << m.r.Intn(8)
	}
	return join(b[:x.lo], framed(p), b[x.hi:])
}

// Chance views, saved, and what is made of their archives, all against the oracle.
func TestChance(t *testing.T) {
	rounds := 500
	if testing.Short() {
		rounds = 120
	}
	for seed := range rounds {
		m := newMaker(int64(seed))
		v := desk.NewReplica()
		m.grow(v, m.r.Intn(14))
		ops := opsOf(t, v)
		b, e := archive.Save(v)
		if e != api.OK || !bytes.Equal(b, archiveOf(ops...)) {
			t.Fatalf("P22.2: seed %d: Save = %x, %d, want %x", seed, b, e, archiveOf(ops...))
		}
		k := m.r.Intn(len(ops) + 1)
		longer, _ := archive.Save(m.behind(t, ops, m.r.Intn(5)))
		other, _ := archive.Save(m.behind(t, ops[:k], m.r.Intn(5)))
		delta, _ := archive.Delta(archiveOf(ops[:k]...), longer)
		list := [][]byte{b, longer, other, delta, archiveOf(ops[:k]...)}
		for range 6 {
			x := list[m.r.Intn(len(list))]
			for range 1 + m.r.Intn(2) {
				x = m.spoil(x)
			}
			list = append(list, x)
		}
		for _, x := range list {
			holdsOne(t, x)
			holdsTwo(t, list[m.r.Intn(5)], x)
			holdsTwo(t, x, list[m.r.Intn(len(list))])
			holdsTwo(t, archiveOf(ops[:k]...), x)
		}
	}
}

// At any bytes: short rows of the bytes that mean something, and chance ones within right frames.
func TestAnyBytes(t *testing.T) {
	r := rand.New(rand.NewSource(2))
	some := []byte{0, 1, 2, 9, 'c', 'e', 'r', 0xc7, 0x9d, 0xff}
	for range 20000 {
		b := make([]byte, r.Intn(30))
		for i := range b {
			b[i] = some[r.Intn(len(some))]
		}
		holdsOne(t, b)
		f, _ := frame.Wrap(b)
		holdsOne(t, f)
		holdsOne(t, join(headFrame(), f, footFrame()))
		holdsTwo(t, archiveOf(), join([]byte(nil), framed([]byte("redraft\x01\x02"), b), footFrame()))
	}
}
