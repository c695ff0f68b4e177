package frame_test

import (
	"bytes"
	"math/rand"
	"testing"

	"redraft/api"
	"redraft/frame"
)

// pair: a Splitter beside the oracle's.
type pair struct {
	t     *testing.T
	s     *frame.Splitter
	plain *plainSplitter
	total int // the bytes of all frames whose payloads were told
	all   [][]byte
}

func newPair(t *testing.T) *pair {
	t.Helper()
	p := &pair{t: t, s: frame.NewSplitter(), plain: &plainSplitter{}}
	p.holds(nil)
	return p
}

func (p *pair) feed(piece []byte) {
	p.t.Helper()
	want := p.plain.feed(piece)
	in := bytes.Clone(piece)
	got := p.s.Feed(in)
	if !same(got, want) {
		p.t.Fatalf("P9.7: Feed(%s) = %x, want %x; fed so far %s", short(piece), got, want, short(p.plain.fed))
	}
	if !bytes.Equal(in, piece) {
		p.t.Fatalf("P9.1: Feed has changed %s to %s", short(piece), short(in))
	}
	for _, x := range got {
		p.total += 12 + len(x)
	}
	p.all = append(p.all, got...)
	p.holds(piece)
}

func (p *pair) holds(piece []byte) {
	p.t.Helper()
	if p.s.Held() != p.plain.held || p.s.Lost() != p.plain.lost {
		p.t.Fatalf("P9.7: behind Feed(%s): Held %d, Lost %d, want %d, %d; fed so far %s", short(piece), p.s.Held(), p.s.Lost(), p.plain.held, p.plain.lost, short(p.plain.fed))
	}
	if p.s.Held() >= 12+api.MaxPayload {
		p.t.Fatalf("P9.11: Held %d", p.s.Held())
	}
	if p.s.Held()+p.s.Lost()+p.total != len(p.plain.fed) {
		p.t.Fatalf("P9.11: Held %d, Lost %d, frames %d; fed %d", p.s.Held(), p.s.Lost(), p.total, len(p.plain.fed))
	}
}

func TestP9_7New(t *testing.T) {
	a, b := frame.NewSplitter(), frame.NewSplitter()
	if a == nil || b == nil || a == b {
		t.Fatal("P9.7: NewSplitter answers none, or the same one twice")
	}
	a.Feed(unhex(t, "00 00 c7 9d"))
	if a.Held() != 2 || a.Lost() != 2 {
		t.Errorf("P9.7: Held %d, Lost %d", a.Held(), a.Lost())
	}
	for _, s := range []*frame.Splitter{b, frame.NewSplitter()} {
		if s.Held() != 0 || s.Lost() != 0 {
			t.Errorf("P9.7: a new one: Held %d, Lost %d", s.Held(), s.Lost())
		}
		if list := s.Feed(nil); len(list) != 0 || s.Held() != 0 || s.Lost() != 0 {
			t.Errorf("P9.7: Feed of no bytes = %x; Held %d, Lost %d", list, s.Held(), s.Lost())
		}
	}
}

// Each error of First: what is thrown away behind it is one byte, and what is behind that byte is looked at anew.
func TestP9_7EachError(t *testing.T) {
	for _, c := range []struct {
		name, b           string
		count, lost, held int
	}{
		{"no mark", "00" + emptyFrame, 1, 1, 0},
		{"a mark's first byte twice", "c7" + emptyFrame, 1, 1, 0},
		{"half a mark that waits", "00 c7", 0, 1, 1},
		{"a whole mark that waits", "00 c7 9d", 0, 1, 2},
		{"a length not guarded", "c7 9d 00 00 00 ff ff fe" + emptyFrame, 1, 8, 0},
		{"too big", "c7 9d 02 00 01 fd ff fe" + emptyFrame, 1, 8, 0},
		{"too big, and a mark in it", "c7 9d c7 9d 01 38 62 fe 00" + emptyFrame, 1, 9, 0},
		{"too big, and in it a head that waits, guarded by the next frame's mark", "c7 9d c7 9d 01 38 62 fe" + emptyFrame, 0, 2, 18},
		{"not guarded, and a mark in it that waits", "c7 9d 00 c7 9d 00 00 00", 0, 3, 5},
		{"another checksum", "c7 9d 00 00 00 ff ff ff 00 00 00 01" + emptyFrame, 1, 12, 0},
		{"another checksum, a frame as payload", "c7 9d 00 00 0c ff ff f3 00 00 00 00" + emptyFrame, 1, 12, 0},
		{"another checksum, a frame half in it", "c7 9d 00 00 06 ff ff f9 00 00 00 00" + emptyFrame, 1, 12, 0},
		{"a frame, then one as payload", emptyFrame + "c7 9d 00 00 01 ff ff fe 52 7d 53 51 00", 2, 0, 0},
		{"a great one that waits, frames behind it", "c7 9d 02 00 00 fd ff ff" + emptyFrame + emptyFrame, 0, 0, 32},
	} {
		for _, whole := range []bool{true, false} {
			p := newPair(t)
			b := unhex(t, c.b)
			if whole {
				p.feed(b)
			} else {
				for i := range b {
					p.feed(b[i : i+1])
				}
			}
			if len(p.all) != c.count || p.s.Lost() != c.lost || p.s.Held() != c.held {
				t.Errorf("P9.7: %s: %d payloads, Lost %d, Held %d, want %d, %d, %d", c.name, len(p.all), p.s.Lost(), p.s.Held(), c.count, c.lost, c.held)
			}
		}
	}
}

// A frame in pieces: each cut in two, and byte by byte.
func TestP9_7EveryCut(t *testing.T) {
	r := rand.New(rand.NewSource(19))
	for _, n := range []int{0, 1, 2, 20, 300} {
		payload := randomBytes(r, n)
		b := plainFrame(payload)
		for k := range len(b) + 1 {
			s := frame.NewSplitter()
			first := s.Feed(b[:k])
			if k < len(b) && (len(first) != 0 || s.Held() != k) {
				t.Fatalf("P9.7: %d of %d bytes: %x, Held %d", k, len(b), first, s.Held())
			}
			list := append(first, s.Feed(b[k:])...)
			if !same(list, [][]byte{payload}) || s.Held() != 0 || s.Lost() != 0 {
				t.Fatalf("P9.7: cut at %d of %d: %x, Held %d, Lost %d", k, len(b), list, s.Held(), s.Lost())
			}
		}
	}
}

func TestP9_11Great(t *testing.T) {
	r := rand.New(rand.NewSource(20))
	payload := randomBytes(r, api.MaxPayload)
	b := plainFrame(payload)
	s := frame.NewSplitter()
	for i := range len(b) - 1 {
		if list := s.Feed(b[i : i+1]); len(list) != 0 || s.Held() != i+1 || s.Lost() != 0 {
			t.Fatalf("P9.7: byte %d of a great frame: %d payloads, Held %d, Lost %d", i, len(list), s.Held(), s.Lost())
		}
	}
	if list := s.Feed(join(b[len(b)-1:], []byte{0xc7})); !same(list, [][]byte{payload}) || s.Held() != 1 || s.Lost() != 0 {
		t.Errorf("P9.7: a great frame: %d payloads, Held %d, Lost %d", len(list), s.Held(), s.Lost())
	}
	// The same with its last byte turned: all but what looks like a beginning is thrown away.
	bad := turnedAt(plainFrame(make([]byte, api.MaxPayload)), 8*len(b)-1)
	s = frame.NewSplitter()
	if list := s.Feed(bad[:len(bad)-1]); len(list) != 0 || s.Held() != len(bad)-1 {
		t.Errorf("P9.7: %d payloads, Held %d", len(list), s.Held())
	}
	if list := s.Feed(bad[len(bad)-1:]); len(list) != 0 || s.Held() != 0 || s.Lost() != len(bad) {
		t.Errorf("P9.7: %d payloads, Held %d, Lost %d", len(list), s.Held(), s.Lost())
	}
}

// fedIn: what a Splitter tells of a stream that is cut at the bits of cuts.
func fedIn(b []byte, cuts int) (all [][]byte, held, lost int) {
	s := frame.NewSplitter()
	lo := 0
	for i := 1; i <= len(b); i++ {
		if i == len(b) || cuts>>(i-1)&1 == 1 {
			all = append(all, s.Feed(b[lo:i])...)
			lo = i
		}
	}
	return all, s.Held(), s.Lost()
}

// Short streams, cut in all ways.
func TestP9_11AllPieces(t *testing.T) {
	for _, stream := range []string{
		emptyFrame,
		"00" + emptyFrame,
		"c7" + emptyFrame,
		"c7 9d 00 00 01 ff ff fe 52 7d 53 51 00",
		"c7 9d 00 00 01 ff ff fe 52 7d 53 51 01 c7",
		"c7 9d 00 00 00 ff ff fe c7 9d 00 c7 c7 9d",
		"c7 9d 02 00 01 fd ff fe c7 c7 9d 02",
		"c7 9d 00 00 02 ff ff fd 00 00 00 00 c7 9d",
		"c7 c7 9d 9d 00 c7 9d 00 00 00 ff ff",
	} {
		b := unhex(t, stream)
		plain := &plainSplitter{}
		want := plain.feed(b)
		for cuts := range 1 << (len(b) - 1) {
			all, held, lost := fedIn(b, cuts)
			if !same(all, want) || held != plain.held || lost != plain.lost {
				t.Fatalf("P9.11: %s cut by %b: %x, Held %d, Lost %d, want %x, %d, %d", stream, cuts, all, held, lost, want, plain.held, plain.lost)
			}
		}
	}
}

// All short streams of some letters behind two beginnings, at once and byte by byte.
func TestP9_7AllShort(t *testing.T) {
	letters := []byte{0xc7, 0x9d, 0x00, 0xff}
	var all func(b []byte, left int)
	all = func(b []byte, left int) {
		if left == 0 {
			whole, single := newPair(t), newPair(t)
			whole.feed(b)
			for i := range b {
				single.feed(b[i : i+1])
			}
			return
		}
		for _, x := range letters {
			all(append(b[:len(b):len(b)], x), left-1)
		}
	}
	all(nil, 5)
	all(unhex(t, "c7 9d 00 00 00 ff ff ff"), 5)
	all(unhex(t, "c7 9d 00 c7 9d 00 00 00 ff"), 5)
}

// pieces: b cut at random places, with pieces of no byte among them.
func pieces(r *rand.Rand, b []byte) [][]byte {
	var out [][]byte
	most := 1 + r.Intn(40)
	for len(b) > 0 {
		n := min(r.Intn(most+1), len(b))
		out = append(out, b[:n])
		b = b[n:]
	}
	return append(out, nil)
}

// wild: a stream of frames, spoilt frames, stretches, and heads that promise too much.
func wild(r *rand.Rand) []byte {
	var b []byte
	for range 1 + r.Intn(8) {
		switch r.Intn(6) {
		case 0:
			b = append(b, randomBytes(r, r.Intn(10))...)
		case 1:
			b = append(b, nearly(r)...)
		case 2:
			b = append(b, bytes.Repeat([]byte{0xc7}, r.Intn(4))...)
		case 3:
			b = append(b, plainFrame(randomBytes(r, 40))[:8+r.Intn(5)]...)
		default:
			b = append(b, run(some(r, 2))...)
		}
	}
	return b
}

func TestP9_11Random(t *testing.T) {
	r := rand.New(rand.NewSource(21))
	for range 2000 {
		b := wild(r)
		p, q := newPair(t), newPair(t)
		for _, x := range pieces(r, b) {
			p.feed(x)
		}
		q.feed(b)
		if !same(p.all, q.all) || p.s.Held() != q.s.Held() || p.s.Lost() != q.s.Lost() {
			t.Fatalf("P9.11: %x in pieces: %x, Held %d, Lost %d; at once: %x, %d, %d", b, p.all, p.s.Held(), p.s.Lost(), q.all, q.s.Held(), q.s.Lost())
		}
	}
}

// calm: a stretch without c7.
func calm(r *rand.Rand, n int) []byte {
	b := randomBytes(r, n)
	for i, x := range b {
		if x == 0xc7 {
			b[i] = 0x9d
		}
	}
	return b
}

func TestP9_12FoundAgain(t *testing.T) {
	r := rand.New(rand.NewSource(22))
	for range 1000 {
		var b []byte
		var payloads [][]byte
		lost := 0
		for range r.Intn(12) {
			if r.Intn(2) == 0 {
				x := calm(r, r.Intn(30))
				b = append(b, x...)
				lost += len(x)
			} else {
				x := some(r, 1)
				b = append(b, run(x)...)
				payloads = append(payloads, x...)
			}
		}
		s := frame.NewSplitter()
		var got [][]byte
		for _, x := range pieces(r, b) {
			got = append(got, s.Feed(x)...)
		}
		if !same(got, payloads) || s.Held() != 0 || s.Lost() != lost {
			t.Fatalf("P9.12: %x: %x, Held %d, Lost %d, want %x, 0, %d", b, got, s.Held(), s.Lost(), payloads, lost)
		}
	}
}

// A Splitter that has met wild bytes and holds nothing again is as good as a new one.
func TestP9_12BehindAWildOne(t *testing.T) {
	r := rand.New(rand.NewSource(23))
	met := 0
	for range 2000 {
		s := frame.NewSplitter()
		s.Feed(wild(r))
		if s.Held() != 0 {
			continue
		}
		met++
		lost := s.Lost()
		payloads := some(r, 4)
		stretch := calm(r, 5)
		got := s.Feed(join(stretch, run(payloads[:2]), stretch))
		got = append(got, s.Feed(run(payloads[2:]))...)
		if !same(got, payloads) || s.Held() != 0 || s.Lost() != lost+10 {
			t.Fatalf("P9.12: %x, Held %d, Lost %d, want %x, 0, %d", got, s.Held(), s.Lost(), payloads, lost+10)
		}
	}
	if met < 100 {
		t.Errorf("only %d held nothing", met)
	}
}

func TestP9_12LongStretches(t *testing.T) {
	r := rand.New(rand.NewSource(24))
	stretch := calm(r, 1<<20)
	payload := randomBytes(r, api.MaxPayload)
	s := frame.NewSplitter()
	got := s.Feed(join(stretch, plainFrame(payload), stretch, plainFrame(payload)))
	if !same(got, [][]byte{payload, payload}) || s.Held() != 0 || s.Lost() != 2<<20 {
		t.Errorf("P9.12: %d payloads, Held %d, Lost %d", len(got), s.Held(), s.Lost())
	}
	// A row of c7: each gives way to the next one, and the last waits.
	s = frame.NewSplitter()
	if got := s.Feed(bytes.Repeat([]byte{0xc7}, 1<<20)); len(got) != 0 || s.Held() != 1 || s.Lost() != 1<<20-1 {
		t.Errorf("P9.7: %d payloads, Held %d, Lost %d", len(got), s.Held(), s.Lost())
	}
}
