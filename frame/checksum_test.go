package frame_test

import (
	"bytes"
	"encoding/binary"
	"hash/crc32"
	"math/rand"
	"testing"

	"redraft/api"
	"redraft/frame"
)

// published: the checksum as Go's own library has it.
func published(b []byte) api.Sum {
	var out api.Sum
	binary.BigEndian.PutUint32(out[:], crc32.Checksum(b, crc32.MakeTable(crc32.Castagnoli)))
	return out
}

func holdsSum(t *testing.T, b []byte) {
	t.Helper()
	in := bytes.Clone(b)
	got := frame.Checksum(in)
	if want := plainSum(b); got != want || published(b) != want {
		t.Fatalf("P9.2: Checksum(%s) of %d bytes = %x, want %x (published: %x)", short(b), len(b), got, want, published(b))
	}
	if !bytes.Equal(in, b) {
		t.Fatalf("P9.1: Checksum changed %s to %s", short(b), short(in))
	}
}

func TestP9_2AllShort(t *testing.T) {
	holdsSum(t, nil)
	for i := range 256 {
		holdsSum(t, []byte{byte(i)})
		for k := range 256 {
			holdsSum(t, []byte{byte(i), byte(k)})
		}
	}
}

func TestP9_2Lengths(t *testing.T) {
	r := rand.New(rand.NewSource(1))
	for n := range 600 {
		holdsSum(t, randomBytes(r, n))
		holdsSum(t, make([]byte, n))
		holdsSum(t, bytes.Repeat([]byte{0xff}, n))
	}
	// A checksum is taken of any number of bytes, not of a payload's alone.
	for _, n := range []int{65535, 65536, api.MaxPayload - 1, api.MaxPayload, api.MaxPayload + 1, 1 << 20} {
		holdsSum(t, randomBytes(r, n))
	}
}

func TestP9_2AgainAndAgain(t *testing.T) {
	b := []byte("123456789")
	for range 3 {
		frame.Checksum([]byte("something else"))
		if got := frame.Checksum(b); got != (api.Sum{0xe3, 0x06, 0x92, 0x83}) {
			t.Fatalf("P9.2: Checksum = %x", got)
		}
	}
	if got := frame.Checksum(b[2:5]); got != plainSum([]byte("345")) {
		t.Errorf("P9.2: Checksum of a part with bytes around it = %x", got)
	}
}

func mixed(lists ...[]byte) []byte {
	out := make([]byte, len(lists[0]))
	for _, l := range lists {
		for i, x := range l {
			out[i] ^= x
		}
	}
	return out
}

func TestP9_10ExclusiveOr(t *testing.T) {
	r := rand.New(rand.NewSource(2))
	lengths := []int{0, 1, 2, 3, 4, 5, 7, 8, 9, 31, 32, 33, 255, 256, 257, 1000, 65536, api.MaxPayload}
	for range 300 {
		lengths = append(lengths, r.Intn(300))
	}
	for _, n := range lengths {
		a, b, c := randomBytes(r, n), randomBytes(r, n), randomBytes(r, n)
		if r.Intn(4) == 0 {
			clear(c)
		}
		sa, sb, sc := frame.Checksum(a), frame.Checksum(b), frame.Checksum(c)
		want := api.Sum(mixed(sa[:], sb[:], sc[:]))
		if got := frame.Checksum(mixed(a, b, c)); got != want {
			t.Fatalf("P9.10: of lists of %d bytes: %x, want %x", n, got, want)
		}
	}
}
