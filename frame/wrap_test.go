package frame_test

import (
	"bytes"
	"math/rand"
	"testing"

	"redraft/api"
	"redraft/frame"
)

func TestP9_3Lengths(t *testing.T) {
	r := rand.New(rand.NewSource(3))
	for _, n := range []int{0, 1, 2, 11, 12, 13, 254, 255, 256, 257, 65534, 65535, 65536, 65537, api.MaxPayload - 1, api.MaxPayload} {
		for _, payload := range [][]byte{randomBytes(r, n), make([]byte, n), bytes.Repeat([]byte{0xc7, 0x9d}, n)[:n]} {
			in := bytes.Clone(payload)
			b := wrapped(t, in)
			if len(b) != 12+n || !bytes.Equal(in, payload) {
				t.Fatalf("P9.3: Wrap of %d bytes has %d, or has changed them", n, len(b))
			}
		}
	}
}

func TestP9_3Big(t *testing.T) {
	for _, n := range []int{api.MaxPayload + 1, api.MaxPayload + 2, 1<<18 - 1, 1 << 18, 1 << 24, 1<<24 + 1} {
		if b, e := frame.Wrap(make([]byte, n)); e != api.ErrBig || len(b) != 0 {
			t.Errorf("P9.3: Wrap of %d bytes = %d bytes, %d, want ErrBig", n, len(b), e)
		}
	}
}

func TestP9_8ThereAndBack(t *testing.T) {
	r := rand.New(rand.NewSource(4))
	lengths := []int{0, 1, 255, 256, 65535, 65536, api.MaxPayload - 1, api.MaxPayload}
	for n := range 300 {
		lengths = append(lengths, n)
	}
	for _, n := range lengths {
		payload := randomBytes(r, n)
		b := wrapped(t, payload)
		got, e := frame.Open(b)
		if e != api.OK || !bytes.Equal(got, payload) {
			t.Fatalf("P9.8: Open of Wrap of %d bytes = %s, %d", n, short(got), e)
		}
		if again, e := frame.Wrap(got); e != api.OK || !bytes.Equal(again, b) {
			t.Fatalf("P9.8: Wrap of Open of Wrap of %d bytes = %s, %d", n, short(again), e)
		}
		first, m, e := frame.First(join(b, []byte{0xc7}))
		if e != api.OK || m != 12+n || !bytes.Equal(first, payload) {
			t.Fatalf("P9.4: First of a frame of %d bytes and one more = %s, %d, %d", n, short(first), m, e)
		}
	}
}

// P9.8's other way round: of all bytes that Open takes, Wrap makes the same. Nearly right ones are tried, so that some are taken.
func TestP9_8OneFrameEach(t *testing.T) {
	r := rand.New(rand.NewSource(5))
	taken := 0
	for range 20000 {
		b := plainFrame(randomBytes(r, r.Intn(6)))
		if r.Intn(2) == 0 {
			b[r.Intn(len(b))] = byte(r.Intn(256))
		}
		b = b[:len(b)-r.Intn(2)*r.Intn(2)]
		payload, e := frame.Open(b)
		if e != api.OK {
			continue
		}
		taken++
		if again, e := frame.Wrap(payload); e != api.OK || !bytes.Equal(again, b) {
			t.Fatalf("P9.8: Open(%x) = %x, of which Wrap makes %x, %d", b, payload, again, e)
		}
	}
	if taken < 1000 {
		t.Errorf("only %d were taken", taken)
	}
}
