package frame_test

import (
	"bytes"
	"math/rand"
	"testing"

	"redraft/api"
	"redraft/frame"
)

// some: payloads of a run, among them empty ones and such that look like frames.
func some(r *rand.Rand, count int) [][]byte {
	var out [][]byte
	for range count {
		switch r.Intn(4) {
		case 0:
			out = append(out, nil)
		case 1:
			out = append(out, plainFrame(randomBytes(r, r.Intn(3))))
		default:
			out = append(out, randomBytes(r, r.Intn(9)))
		}
	}
	return out
}

// run: their frames, one behind the other.
func run(payloads [][]byte) []byte {
	var out []byte
	for _, p := range payloads {
		out = append(out, plainFrame(p)...)
	}
	return out
}

func TestP9_6WholeRuns(t *testing.T) {
	r := rand.New(rand.NewSource(14))
	for count := range 40 {
		payloads := some(r, count)
		b := run(payloads)
		list, n, e := frame.Scan(b)
		if !same(list, payloads) || n != len(b) || e != api.OK {
			t.Fatalf("P9.6: Scan of %d frames = %d payloads, %d of %d bytes, %d", count, len(list), n, len(b), e)
		}
	}
	for _, none := range [][]byte{nil, {}} {
		if list, n, e := frame.Scan(none); len(list) != 0 || n != 0 || e != api.OK {
			t.Errorf("P9.6: Scan of no bytes = %x, %d, %d", list, n, e)
		}
	}
}

func TestP9_6Great(t *testing.T) {
	r := rand.New(rand.NewSource(15))
	payloads := [][]byte{randomBytes(r, api.MaxPayload), nil, randomBytes(r, api.MaxPayload-1), randomBytes(r, 1)}
	b := run(payloads)
	if list, n, e := frame.Scan(b); !same(list, payloads) || n != len(b) || e != api.OK {
		t.Errorf("P9.6: Scan = %d payloads, %d, %d", len(list), n, e)
	}
	if list, n, e := frame.Scan(b[:api.MaxPayload+12+11]); !same(list, payloads[:1]) || n != api.MaxPayload+12 || e != api.ErrShort {
		t.Errorf("P9.6: Scan of what is cut = %d payloads, %d, %d", len(list), n, e)
	}
}

// A run cut at every place: the frames ahead of the cut are told, and ErrShort unless it is cut between two.
func TestP9_6EveryCut(t *testing.T) {
	r := rand.New(rand.NewSource(16))
	for range 20 {
		payloads := some(r, 6)
		b := run(payloads)
		whole, end := 0, 0
		for k := range len(b) + 1 {
			if whole < len(payloads) && k == end+12+len(payloads[whole]) {
				end = k
				whole++
			}
			want := api.ErrShort
			if k == end {
				want = api.OK
			}
			list, n, e := frame.Scan(b[:k])
			if !same(list, payloads[:whole]) || n != end || e != want {
				t.Fatalf("P9.6: Scan of a run cut to %d = %d payloads, %d, %d, want %d, %d, %d", k, len(list), n, e, whole, end, want)
			}
		}
	}
}

// A bit turned at every place: the frames ahead of the one that it spoils are told, with that one's error, and none behind.
func TestP9_6EveryBit(t *testing.T) {
	r := rand.New(rand.NewSource(17))
	payloads := some(r, 6)
	b := run(payloads)
	whole, end := 0, 0
	for i := range 8 * len(b) {
		if i/8 == end+12+len(payloads[whole]) {
			end = i / 8
			whole++
		}
		want := api.ErrSum
		if i/8 < end+8 {
			want = api.ErrMark
		}
		list, n, e := frame.Scan(turnedAt(b, i))
		if !same(list, payloads[:whole]) || n != end || e != want {
			t.Fatalf("P9.6: Scan of a run with bit %d turned = %d payloads, %d, %d, want %d, %d, %d", i, len(list), n, e, whole, end, want)
		}
	}
}

// Each error behind whole frames, with what stands ahead of it told; a right frame behind it is not.
func TestP9_6EachError(t *testing.T) {
	payloads := [][]byte{[]byte("one"), nil, []byte("three")}
	b := run(payloads)
	for _, c := range []struct {
		rest string
		e    api.Errno
	}{
		{"c7", api.ErrShort},
		{"c7 9d 00 00 01 ff ff fe 52 7d 53 51", api.ErrShort},
		{"00", api.ErrMark},
		{"c7 00" + emptyFrame, api.ErrMark},
		{"c7 9d 00 00 00 ff ff fe" + emptyFrame, api.ErrMark},
		{"c7 9d 02 00 01 fd ff fe", api.ErrBig},
		{"c7 9d 02 00 01 fd ff fe" + emptyFrame, api.ErrBig},
		{"c7 9d 00 00 00 ff ff ff 00 00 01 00" + emptyFrame, api.ErrSum},
	} {
		in := join(b, unhex(t, c.rest))
		if list, n, e := frame.Scan(in); !same(list, payloads) || n != len(b) || e != c.e {
			t.Errorf("P9.6: Scan of three frames and %s = %q, %d, %d, want %d", c.rest, list, n, e, c.e)
		}
		if list, n, e := frame.Scan(unhex(t, c.rest)); len(list) != 0 || n != 0 || e != c.e {
			t.Errorf("P9.6: Scan of %s = %q, %d, %d, want %d", c.rest, list, n, e, c.e)
		}
	}
}

func TestP9_6Random(t *testing.T) {
	r := rand.New(rand.NewSource(18))
	for range 5000 {
		var b []byte
		for range r.Intn(6) {
			if r.Intn(3) == 0 {
				b = append(b, nearly(r)...)
			} else {
				b = append(b, run(some(r, 2))...)
			}
		}
		holdsScan(t, b)
		holdsScan(t, bytes.TrimRight(b, "\x00\xff"))
	}
}
