package frame_test

import (
	"bytes"
	"math/rand"
	"testing"
	"unsafe"

	"redraft/api"
	"redraft/frame"
)

// roomy: b with spare room behind it, which holds known bytes.
func roomy(b []byte) []byte {
	out := append(bytes.Clone(b), bytes.Repeat([]byte{0xa5}, 40)...)
	return out[:len(b)]
}

// untouched: what roomy made of b is still so, spare room too.
func untouched(t *testing.T, in, b []byte, what string) {
	t.Helper()
	whole := in[:len(b)+40]
	if !bytes.Equal(whole[:len(b)], b) || !bytes.Equal(whole[len(b):], bytes.Repeat([]byte{0xa5}, 40)) {
		t.Fatalf("P9.1: %s has changed what it was handed: %x", what, whole)
	}
}

// apart: no two lists have a byte of memory in common, spare room too.
func apart(t *testing.T, what string, lists ...[]byte) {
	t.Helper()
	for i, a := range lists {
		for _, b := range lists[:i] {
			if cap(a) == 0 || cap(b) == 0 {
				continue
			}
			x, y := uintptr(unsafe.Pointer(unsafe.SliceData(a))), uintptr(unsafe.Pointer(unsafe.SliceData(b)))
			if x < y+uintptr(cap(b)) && y < x+uintptr(cap(a)) {
				t.Fatalf("P9.1: %s: two lists share memory", what)
			}
		}
	}
}

// overwrite: all of a list's memory, spare room too, and what an append writes.
func overwrite(b []byte) {
	whole := b[:cap(b)]
	for i := range whole {
		whole[i] ^= 0xff
	}
	_ = append(b, 0xc7, 0x9d, 1, 2, 3)
}

func TestP9_1WrapFirstOpen(t *testing.T) {
	r := rand.New(rand.NewSource(25))
	for _, n := range []int{0, 1, 2, 7, 20, 31, 32, 33, 300, api.MaxPayload} {
		payload := randomBytes(r, n)
		in := roomy(payload)
		a, _ := frame.Wrap(in)
		b, _ := frame.Wrap(in)
		untouched(t, in, payload, "Wrap")
		apart(t, "Wrap", in, a, b)
		overwrite(a)
		overwrite(in)
		if !bytes.Equal(b, plainFrame(payload)) {
			t.Fatalf("P9.1: a frame has changed behind another's: %s", short(b))
		}

		in = roomy(b)
		p, _ := frame.Open(in)
		q, _, _ := frame.First(in)
		o, _, _ := frame.First(in)
		frame.Checksum(in)
		untouched(t, in, b, "Open, First or Checksum")
		apart(t, "Open and First", in, p, q, o)
		overwrite(p)
		overwrite(in)
		overwrite(o)
		if !bytes.Equal(q, payload) {
			t.Fatalf("P9.1: a payload has changed behind another's: %s", short(q))
		}
	}
}

func TestP9_1Scan(t *testing.T) {
	r := rand.New(rand.NewSource(26))
	for _, rest := range [][]byte{nil, {0xc7}, {0}, randomBytes(r, 50)} {
		for count := range 9 {
			payloads := some(r, count)
			b := join(run(payloads), rest)
			for i := range payloads {
				in := roomy(b)
				list, _, _ := frame.Scan(in)
				other, _, _ := frame.Scan(in)
				untouched(t, in, b, "Scan")
				apart(t, "Scan", append(append([][]byte{in}, list...), other...)...)
				overwrite(list[i])
				overwrite(in)
				list[i] = payloads[i]
				if !same(list, payloads) || !same(other, payloads) {
					t.Fatalf("P9.1: payload %d of %d written over: %x, %x, want %x", i, count, list, other, payloads)
				}
				_ = append(list, []byte{1})
				list[0] = nil
				if !same(other, payloads) {
					t.Fatalf("P9.1: a list of payloads has changed behind another's")
				}
			}
		}
	}
}

// What a Splitter holds is its own: pieces and payloads may be written over.
func TestP9_1Feed(t *testing.T) {
	r := rand.New(rand.NewSource(27))
	for range 1500 {
		b := wild(r)
		plain := &plainSplitter{}
		s := frame.NewSplitter()
		var got, want, all [][]byte
		for _, x := range pieces(r, b) {
			in := roomy(x)
			list := s.Feed(in)
			untouched(t, in, x, "Feed")
			all = append(all, in)
			all = append(all, list...)
			for _, y := range list {
				got = append(got, bytes.Clone(y))
			}
			want = append(want, plain.feed(x)...)
			overwrite(in)
			for i, y := range list {
				overwrite(y)
				list[i] = nil
			}
			_ = append(list, []byte{1})
			if !same(got, want) || s.Held() != plain.held || s.Lost() != plain.lost {
				t.Fatalf("P9.1: pieces and payloads written over: %x, Held %d, Lost %d, want %x, %d, %d", got, s.Held(), s.Lost(), want, plain.held, plain.lost)
			}
		}
		apart(t, "Feed", all...)
	}
}

// Payloads stay as they were told, whatever is fed behind them.
func TestP9_1FeedEarlierAnswers(t *testing.T) {
	r := rand.New(rand.NewSource(28))
	for range 300 {
		payloads := some(r, 12)
		s := frame.NewSplitter()
		var got [][]byte
		for _, x := range pieces(r, run(payloads)) {
			got = append(got, s.Feed(roomy(x))...)
		}
		if !same(got, payloads) {
			t.Fatalf("P9.1: %x, want %x", got, payloads)
		}
	}
}

// Two Splitters and all other calls at once do not see one another.
func TestP9_1Splitters(t *testing.T) {
	r := rand.New(rand.NewSource(29))
	for range 300 {
		p, q := newPair(t), newPair(t)
		for range 6 {
			p.feed(wild(r))
			frame.Scan(wild(r))
			q.feed(wild(r))
			p.holds(nil)
		}
	}
}
