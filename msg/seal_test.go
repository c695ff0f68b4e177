package msg_test

import (
	"bytes"
	"math/rand"
	"testing"

	"redraft/api"
	"redraft/frame"
	"redraft/msg"
)

// route: the two nodes that a message goes between.
func route(m api.Msg) (from, to int) {
	if m.Code == 1 || m.Code == 2 {
		return m.Client, 0
	}
	return 0, m.Client
}

// holdsSeal: Seal beside M5, and back.
func holdsSeal(t *testing.T, from, to int, m api.Msg) {
	t.Helper()
	e := wantMsg(m)
	if f, g := route(m); e == api.OK && (from != f || to != g) {
		e = api.ErrField
	}
	p, f := msg.Seal(from, to, m)
	if f != e {
		t.Fatalf("M5: Seal(%d, %d, %.200v) = %d, want %d", from, to, m, f, e)
	}
	if e != api.OK {
		if p.From != 0 || p.To != 0 || len(p.Bytes) != 0 {
			t.Fatalf("M5: Seal(%d, %d, %.200v) = %v, %d", from, to, m, p, f)
		}
		return
	}
	want, g := frame.Wrap(plainMsg(m))
	if p.From != from || p.To != to || !bytes.Equal(p.Bytes, want) || g != api.OK {
		t.Fatalf("M5: Seal(%d, %d, %.200v) = %d, %d, %s, want %s", from, to, m, p.From, p.To, short(p.Bytes), short(want))
	}
	back, f := msg.Unseal(p.Bytes)
	if !sameMsg(back, m) || f != api.OK {
		t.Fatalf("M7: Unseal(Seal(%d, %d, %.200v)) = %.200v, %d", from, to, m, back, f)
	}
	again, f := msg.Seal(p.From, p.To, back)
	if !bytes.Equal(again.Bytes, p.Bytes) || f != api.OK {
		t.Fatalf("M7: a packet unsealed and sealed again: %s, %d, want %s", short(again.Bytes), f, short(p.Bytes))
	}
}

func TestM5Nodes(t *testing.T) {
	for _, m := range someMsgs() {
		for _, client := range []int{1, 2, 7, 8} {
			m.Client = client
			if m.Code == api.Submit {
				m.Op.ID[0] = client
				m.Op.Target = api.ID{}
				if m.Op.Kind == api.Status {
					m.Op.Target = api.ID{3, 3}
				}
			}
			for from := -1; from <= 10; from++ {
				for to := -1; to <= 10; to++ {
					holdsSeal(t, from, to, m)
				}
			}
			for _, n := range far {
				for _, k := range far {
					holdsSeal(t, n, k, m)
				}
			}
		}
	}
}

// The chapter's words, one by one: which of the two ways each code goes.
func TestM5Ways(t *testing.T) {
	for _, c := range []struct {
		m        api.Msg
		from, to int
	}{
		{hello(4, 0), 4, 0}, {submit(4, 0, ins(4, 1, 0, "x")), 4, 0}, {ack(4, 1, 1), 0, 4}, {cast(4, 1, ins(2, 1, 0, "x")), 0, 4}, {cast(4, 1, ins(4, 1, 0, "x")), 0, 4},
	} {
		if p, e := msg.Seal(c.from, c.to, c.m); p.From != c.from || p.To != c.to || len(p.Bytes) == 0 || e != api.OK {
			t.Errorf("M5: Seal(%d, %d, %v) = %v, %d", c.from, c.to, c.m, p, e)
		}
		for _, ends := range [][2]int{{c.to, c.from}, {4, 4}, {0, 0}, {c.from + 1, c.to}, {c.from, c.to + 1}, {c.from - 1, c.to}, {c.from, c.to - 1}} {
			if p, e := msg.Seal(ends[0], ends[1], c.m); p.From != 0 || p.To != 0 || len(p.Bytes) != 0 || e != api.ErrField {
				t.Errorf("M5: Seal(%d, %d, %v) = %v, %d, want ErrField", ends[0], ends[1], c.m, p, e)
			}
		}
	}
}

// Encode's error comes ahead of that of the nodes.
func TestM5Encode(t *testing.T) {
	for _, c := range []struct {
		m api.Msg
		e api.Errno
	}{
		{api.Msg{}, api.ErrCode}, {api.Msg{Code: 5, Client: 1}, api.ErrCode}, {withMsg(hello(1, 0), func(m *api.Msg) { m.Seq = 1 }), api.ErrExtra}, {submit(1, 0, ins(1, 1, 0, "")), api.ErrEmpty}, {cast(1, 1, api.Op{}), api.ErrKind}, {cast(1, 1, show(0, 0, 0, 1)), api.ErrKind}, {cast(1, 1, ins(0, 0, 0, "x")), api.ErrID}, {hello(9, 0), api.ErrField}, {ack(1, 0, 1), api.ErrField},
	} {
		for _, ends := range [][2]int{{1, 0}, {0, 1}, {5, 7}, {0, 0}, {9, 0}, {0, 9}} {
			if p, e := msg.Seal(ends[0], ends[1], c.m); p.From != 0 || p.To != 0 || len(p.Bytes) != 0 || e != c.e {
				t.Errorf("M5: Seal(%d, %d, %v) = %v, %d, want %d", ends[0], ends[1], c.m, p, e, c.e)
			}
		}
	}
	for _, m := range someMsgs() {
		for _, n := range far {
			for _, change := range manyChanges(n) {
				m := withMsg(m, change)
				from, to := route(m)
				holdsSeal(t, from, to, m)
				holdsSeal(t, to, from, m)
			}
		}
	}
}

func TestM7Packets(t *testing.T) {
	all := rightMsgs()
	for _, o := range greatOps() {
		all = append(all, submit(o.ID[0], 8192, o), cast(8, 8192, o))
	}
	r := rand.New(rand.NewSource(13))
	for range 3000 {
		all = append(all, randomMsg(r))
	}
	for _, m := range all {
		from, to := route(m)
		holdsSeal(t, from, to, m)
	}
}

// holdsUnseal: Unseal beside M6.
func holdsUnseal(t *testing.T, b []byte) {
	t.Helper()
	payload, e := frame.Open(b)
	var want api.Msg
	if e == api.OK {
		want, _, e = wantDecode(payload)
	}
	in := bytes.Clone(b)
	if got, f := msg.Unseal(in); !sameMsg(got, want) || f != e || !bytes.Equal(in, b) {
		t.Fatalf("M6: Unseal(%s) of %d bytes = %.200v, %d, want %.200v, %d", short(b), len(b), got, f, want, e)
	}
}

// Every bit of a packet turned, every cut, every byte behind it.
func TestM6Spoilt(t *testing.T) {
	for _, m := range someMsgs() {
		whole, _ := frame.Wrap(plainMsg(m))
		holdsUnseal(t, whole)
		for i := range whole {
			for bit := range 8 {
				b := bytes.Clone(whole)
				b[i] ^= 1 << bit
				want := api.ErrSum
				if i < 8 {
					want = api.ErrMark
				}
				if got, e := msg.Unseal(b); !sameMsg(got, api.Msg{}) || e != want {
					t.Errorf("M6: Unseal(%x) = %v, %d, want %d", b, got, e, want)
				}
			}
			if got, e := msg.Unseal(whole[:i]); !sameMsg(got, api.Msg{}) || e != api.ErrShort {
				t.Errorf("M6: Unseal(%x) = %v, %d, want ErrShort", whole[:i], got, e)
			}
		}
		for x := range 256 {
			b := append(bytes.Clone(whole), byte(x))
			if got, e := msg.Unseal(b); !sameMsg(got, api.Msg{}) || e != api.ErrTail {
				t.Errorf("M6: Unseal(%x) = %v, %d, want ErrTail", b, got, e)
			}
		}
	}
	for _, b := range [][]byte{nil, {}, {0xc7}, {0xc7, 0x9d}, {0}, {1, 5, 0}, {0xc7, 0x9d, 2, 0, 1, 0xfd, 0xff, 0xfe}} {
		holdsUnseal(t, b)
	}
}

// A right frame of what is no message: Decode's error. The frame's own comes first.
func TestM6NoMessage(t *testing.T) {
	for _, c := range []struct {
		payload []byte
		e       api.Errno
	}{
		{nil, api.ErrCut}, {num(5), api.ErrCode}, {num(1, 9), api.ErrField}, {num(1, 1), api.ErrCut}, {num(1, 1, 0, 0), api.ErrRest}, {[]byte{0x81, 0}, api.ErrNumber}, {num(2, 1, 0, 3), api.ErrKind}, {num(2, 2, 0, 4, 3, 8, 3, 17, 0), api.ErrField}, {num(4, 1, 1, 1, 1, 1, 0, 1, 0), api.ErrRune}, {plainOp(ins(1, 1, 0, "x")), api.ErrRest},
	} {
		b, _ := frame.Wrap(c.payload)
		if got, e := msg.Unseal(b); !sameMsg(got, api.Msg{}) || e != c.e {
			t.Errorf("M6: Unseal of a frame of %x = %v, %d, want %d", c.payload, got, e, c.e)
		}
		if got, e := msg.Unseal(append(b, 1)); !sameMsg(got, api.Msg{}) || e != api.ErrTail {
			t.Errorf("M6: Unseal of a frame of %x and a byte = %v, %d, want ErrTail", c.payload, got, e)
		}
	}
	r := rand.New(rand.NewSource(14))
	for range 20000 {
		payload := spoil(r, plainMsg(randomMsg(r)))
		b, _ := frame.Wrap(payload)
		holdsUnseal(t, b)
		holdsUnseal(t, spoil(r, b))
	}
}
