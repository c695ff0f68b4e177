package frame_test

import (
	"bytes"
	"math/rand"
	"testing"

	"redraft/api"
	"redraft/frame"
)

// tells: First of b and what stands behind it, and Open of b, answer e.
func tells(t *testing.T, b []byte, behind []byte, e api.Errno, what string) {
	t.Helper()
	if p, n, f := frame.First(join(b, behind)); f != e || n != 0 || len(p) != 0 {
		t.Fatalf("P9.9: %s, %d bytes behind: First = %x, %d, %d, want %d", what, len(behind), p, n, f, e)
	}
	if p, f := frame.Open(b); f != e || len(p) != 0 {
		t.Fatalf("P9.9: %s: Open = %x, %d, want %d", what, p, f, e)
	}
}

func turnedAt(b []byte, bits ...int) []byte {
	out := bytes.Clone(b)
	for _, i := range bits {
		out[i/8] ^= 1 << (i % 8)
	}
	return out
}

func TestP9_9EveryBit(t *testing.T) {
	r := rand.New(rand.NewSource(10))
	for _, n := range []int{0, 1, 2, 3, 4, 5, 20, 255, 256, 257, 300} {
		for _, payload := range [][]byte{randomBytes(r, n), make([]byte, n), bytes.Repeat([]byte{0xc7, 0x9d}, n)[:n]} {
			b := wrapped(t, payload)
			for i := range 8 * len(b) {
				want := api.ErrSum
				if i < 64 {
					want = api.ErrMark
				}
				spoilt := turnedAt(b, i)
				tells(t, spoilt, nil, want, "one bit turned")
				tells(t, spoilt, b, want, "one bit turned")
				tells(t, spoilt, randomBytes(r, 9), want, "one bit turned")
			}
		}
	}
}

func TestP9_9EveryBitOfTheHeadOfAGreatFrame(t *testing.T) {
	r := rand.New(rand.NewSource(11))
	for _, n := range []int{65535, 65536, api.MaxPayload - 1, api.MaxPayload} {
		b := wrapped(t, randomBytes(r, n))
		for i := range 96 {
			want := api.ErrSum
			if i < 64 {
				want = api.ErrMark
			}
			tells(t, turnedAt(b, i), make([]byte, 3), want, "one bit of a great frame turned")
		}
		for range 40 {
			tells(t, turnedAt(b, 96+r.Intn(8*n)), nil, api.ErrSum, "one bit of a great payload turned")
		}
		tells(t, turnedAt(b, 96), nil, api.ErrSum, "the first bit of a great payload turned")
		tells(t, turnedAt(b, 8*len(b)-1), nil, api.ErrSum, "the last bit of a great payload turned")
	}
}

// All pairs and triples of bits within 32 side by side in a payload, and all pairs, triples and fours in the checksum.
func TestP9_9FewBits(t *testing.T) {
	b := wrapped(t, []byte("a\xc7\x9d\x00 payload"))
	for i := 96; i < 8*len(b); i++ {
		for k := i + 1; k < min(i+32, 8*len(b)); k++ {
			tells(t, turnedAt(b, i, k), nil, api.ErrSum, "two bits of the payload turned")
			for m := k + 1; m < min(i+32, 8*len(b)); m++ {
				tells(t, turnedAt(b, i, k, m), nil, api.ErrSum, "three bits of the payload turned")
			}
		}
	}
	for i := 64; i < 96; i++ {
		for k := i + 1; k < 96; k++ {
			tells(t, turnedAt(b, i, k), []byte{1}, api.ErrSum, "two bits of the checksum turned")
			for m := k + 1; m < 96; m++ {
				tells(t, turnedAt(b, i, k, m), []byte{1}, api.ErrSum, "three bits of the checksum turned")
				for o := m + 1; o < 96; o++ {
					tells(t, turnedAt(b, i, k, m, o), nil, api.ErrSum, "four bits of the checksum turned")
				}
			}
		}
	}
}

// Any bits within 32 side by side, wherever they begin.
func TestP9_9ManyBits(t *testing.T) {
	r := rand.New(rand.NewSource(12))
	for _, n := range []int{1, 2, 3, 4, 5, 6, 40, 1000, api.MaxPayload} {
		b := wrapped(t, randomBytes(r, n))
		tries := 3000
		if n == api.MaxPayload {
			tries = 60
		}
		for i := range tries {
			width := min(32, 8*n)
			lo := 96 + r.Intn(8*n-width+1)
			if i%8 == 0 {
				lo = 8*len(b) - width
			}
			tells(t, burst(b, lo, width, r.Uint32()), []byte{9}, api.ErrSum, "bits of the payload turned")
			tells(t, burst(b, 64, 32, r.Uint32()), []byte{9}, api.ErrSum, "bits of the checksum turned")
		}
		tells(t, burst(b, 96, min(32, 8*n), 0xffffffff), nil, api.ErrSum, "all bits of the payload's first bytes turned")
		tells(t, burst(b, 64, 32, 0xffffffff), nil, api.ErrSum, "all bits of the checksum turned")
	}
}

// burst: the bits of mask turned, from bit lo on; at least one of them.
func burst(b []byte, lo, width int, mask uint32) []byte {
	var bits []int
	for i := range width {
		if mask>>i&1 == 1 {
			bits = append(bits, lo+i)
		}
	}
	if bits == nil {
		bits = []int{lo}
	}
	return turnedAt(b, bits...)
}

func TestP9_9EveryCut(t *testing.T) {
	r := rand.New(rand.NewSource(13))
	for _, n := range []int{0, 1, 2, 3, 20, 255, 256, 257, 700} {
		for _, payload := range [][]byte{randomBytes(r, n), bytes.Repeat([]byte(emptyBytes), n)[:n]} {
			b := wrapped(t, payload)
			for k := range len(b) {
				tells(t, b[:k], nil, api.ErrShort, "cut")
			}
		}
	}
	b := wrapped(t, randomBytes(r, api.MaxPayload))
	for k := 0; k < len(b); k += 1 + r.Intn(500) {
		tells(t, b[:k], nil, api.ErrShort, "a great one cut")
	}
	tells(t, b[:len(b)-1], nil, api.ErrShort, "a great one cut by a byte")
}

const emptyBytes = "\xc7\x9d\x00\x00\x00\xff\xff\xff\x00\x00\x00\x00"
