package frame_test

import (
	"bytes"
	"math/rand"
	"testing"

	"redraft/api"
	"redraft/frame"
)

// P9.4's list, each of its lines alone.
func TestP9_4Errors(t *testing.T) {
	for _, c := range []struct {
		name, b string
		e       api.Errno
	}{
		{"no byte", "", api.ErrShort},
		{"another first byte", "c6", api.ErrMark},
		{"the first byte alone", "c7", api.ErrShort},
		{"another second byte", "c7 9e", api.ErrMark},
		{"the mark alone", "c7 9d", api.ErrShort},
		{"seven bytes", "c7 9d 00 00 00 ff ff", api.ErrShort},
		{"a length not guarded in its first byte", "c7 9d 00 00 00 fe ff ff 00 00 00 00", api.ErrMark},
		{"a length not guarded in its second byte", "c7 9d 00 00 00 ff fe ff 00 00 00 00", api.ErrMark},
		{"a length not guarded in its third byte", "c7 9d 00 00 00 ff ff fe 00 00 00 00", api.ErrMark},
		{"the length as it is", "c7 9d 00 00 01 00 00 01 52 7d 53 51 00", api.ErrMark},
		{"one more than may be", "c7 9d 02 00 01 fd ff fe", api.ErrBig},
		{"the greatest length", "c7 9d ff ff ff 00 00 00", api.ErrBig},
		{"the mark and the length alone", "c7 9d 00 00 00 ff ff ff", api.ErrShort},
		{"eleven bytes", "c7 9d 00 00 00 ff ff ff 00 00 00", api.ErrShort},
		{"a payload that is not there", "c7 9d 00 00 01 ff ff fe 52 7d 53 51", api.ErrShort},
		{"another checksum", "c7 9d 00 00 01 ff ff fe 52 7d 53 50 00", api.ErrSum},
		{"a checksum of no bytes", "c7 9d 00 00 01 ff ff fe 00 00 00 00 00", api.ErrSum},
		{"another payload", "c7 9d 00 00 01 ff ff fe 52 7d 53 51 01", api.ErrSum},
		{"the checksum's bytes the other way round", "c7 9d 00 00 01 ff ff fe 51 53 7d 52 00", api.ErrSum},
		{"the length's bytes the other way round", "c7 9d 01 00 00 fe ff ff 52 7d 53 51 00", api.ErrShort},
	} {
		b := unhex(t, c.b)
		if p, n, e := frame.First(b); len(p) != 0 || n != 0 || e != c.e {
			t.Errorf("P9.4: %s: First = %x, %d, %d, want %d", c.name, p, n, e, c.e)
		}
		if p, e := frame.Open(b); len(p) != 0 || e != c.e {
			t.Errorf("P9.5: %s: Open = %x, %d, want %d", c.name, p, e, c.e)
		}
		holdsFirst(t, b)
	}
}

// Two faults at once: the one that is looked at first is told.
func TestP9_4Order(t *testing.T) {
	for _, c := range []struct {
		name, b string
		e       api.Errno
	}{
		{"another first byte, one byte", "9d", api.ErrMark},
		{"another first byte, fewer than eight", "00 9d 00", api.ErrMark},
		{"another second byte, fewer than eight", "c7 c7 00", api.ErrMark},
		{"another second byte, not guarded", "c7 00 00 00 00 00 00 00", api.ErrMark},
		{"fewer than eight, not guarded so far", "c7 9d 00 00 00 00 00", api.ErrShort},
		{"fewer than eight, too big", "c7 9d ff ff ff 00 00", api.ErrShort},
		{"not guarded, too big", "c7 9d ff ff ff 00 00 01", api.ErrMark},
		{"not guarded, too short", "c7 9d 00 00 01 ff ff ff", api.ErrMark},
		{"not guarded, another checksum", "c7 9d 00 00 00 ff ff 7f 00 00 00 01", api.ErrMark},
		{"too big, too short", "c7 9d 02 00 01 fd ff fe", api.ErrBig},
		{"too short, another checksum so far", "c7 9d 00 00 02 ff ff fd 00 00 00 00 01", api.ErrShort},
	} {
		b := unhex(t, c.b)
		if p, n, e := frame.First(b); len(p) != 0 || n != 0 || e != c.e {
			t.Errorf("P9.4: %s: First = %x, %d, %d, want %d", c.name, p, n, e, c.e)
		}
		if p, e := frame.Open(b); len(p) != 0 || e != c.e {
			t.Errorf("P9.5: %s: Open = %x, %d, want %d", c.name, p, e, c.e)
		}
	}
	// Too big and all of it there, with the right checksum; and another checksum with bytes behind.
	big := make([]byte, 12+api.MaxPayload+1)
	copy(big, unhex(t, "c7 9d 02 00 01 fd ff fe"))
	sum := plainSum(big[12:])
	copy(big[8:], sum[:])
	if p, n, e := frame.First(big); len(p) != 0 || n != 0 || e != api.ErrBig {
		t.Errorf("P9.4: too big, but whole: %d bytes, %d, %d", len(p), n, e)
	}
	if p, e := frame.Open(unhex(t, "c7 9d 00 00 00 ff ff ff 00 00 00 01 00")); len(p) != 0 || e != api.ErrSum {
		t.Errorf("P9.5: another checksum and a tail: %x, %d", p, e)
	}
}

func TestP9_4AllFirstBytes(t *testing.T) {
	rest := unhex(t, emptyFrame)[2:]
	for i := range 256 {
		holdsFirst(t, []byte{byte(i)})
		for k := range 256 {
			holdsFirst(t, []byte{byte(i), byte(k)})
			holdsFirst(t, join([]byte{byte(i), byte(k)}, rest))
		}
	}
}

// All short rows of bytes that stand in heads.
func TestP9_4AllShort(t *testing.T) {
	letters := []byte{0xc7, 0x9d, 0x00, 0xff, 0x01}
	var all func(b []byte, left int)
	all = func(b []byte, left int) {
		holdsFirst(t, b)
		holdsScan(t, b)
		if left == 0 {
			return
		}
		for _, x := range letters {
			all(append(b[:len(b):len(b)], x), left-1)
		}
	}
	all(nil, 6)
	all([]byte{0xc7, 0x9d}, 6)
	all([]byte{0xc7, 0x9d, 0, 0, 0, 0xff, 0xff, 0xff}, 6)
	all([]byte{0xc7, 0x9d, 0, 0, 1, 0xff, 0xff, 0xfe}, 6)
}

// Each length that three bytes may tell, in a head alone.
func TestP9_4AllLengths(t *testing.T) {
	b := make([]byte, 8)
	b[0], b[1] = 0xc7, 0x9d
	for n := 0; n < 1<<24; n++ {
		b[2], b[3], b[4] = byte(n>>16), byte(n>>8), byte(n)
		b[5], b[6], b[7] = 255-b[2], 255-b[3], 255-b[4]
		want := api.ErrShort
		if n > 131072 {
			want = api.ErrBig
		}
		if p, m, e := frame.First(b); len(p) != 0 || m != 0 || e != want {
			t.Fatalf("P9.4: a head that tells %d: %x, %d, %d, want %d", n, p, m, e, want)
		}
	}
}

// Each byte that may guard a byte of the length.
func TestP9_4AllGuards(t *testing.T) {
	for at := range 3 {
		for x := range 256 {
			for y := range 256 {
				b := unhex(t, emptyFrame)
				b[2+at], b[5+at] = byte(x), byte(y)
				want := api.ErrMark
				switch {
				case x+y != 255:
				case x == 0:
					want = api.OK
				case at == 0 && x > 2:
					want = api.ErrBig
				default:
					want = api.ErrShort
				}
				if _, _, e := frame.First(b); e != want {
					t.Fatalf("P9.4: byte %d is %02x, guarded by %02x: %d, want %d", 2+at, x, y, e, want)
				}
			}
		}
	}
}

// How many bytes are there, up to just enough, for payloads at the edges.
func TestP9_4Reach(t *testing.T) {
	r := rand.New(rand.NewSource(6))
	for _, n := range []int{0, 1, 255, 256, 65535, 65536, api.MaxPayload} {
		b := plainFrame(randomBytes(r, n))
		for _, c := range []struct {
			more int
			e    api.Errno
		}{{-1, api.ErrShort}, {0, api.OK}, {1, api.OK}} {
			in := append(bytes.Clone(b), 0)[:len(b)+c.more]
			p, m, e := frame.First(in)
			if e != c.e || e == api.OK && (m != 12+n || !bytes.Equal(p, b[12:])) {
				t.Errorf("P9.4: a payload of %d bytes, %d bytes more: %d bytes, %d, %d", n, c.more, len(p), m, e)
			}
		}
	}
}

// P9.4's remark: an error but ErrShort, and a payload, stay whatever comes behind.
func TestP9_4Stays(t *testing.T) {
	r := rand.New(rand.NewSource(7))
	for range 20000 {
		b := nearly(r)
		p, n, e := frame.First(b)
		if e == api.ErrShort {
			continue
		}
		more := join(b, randomBytes(r, r.Intn(20)))
		if q, m, f := frame.First(more); !bytes.Equal(q, p) || m != n || f != e {
			t.Fatalf("P9.4: First(%x) = %x, %d, %d, but First(%x) = %x, %d, %d", b, p, n, e, more, q, m, f)
		}
	}
}

func TestP9_5Tail(t *testing.T) {
	r := rand.New(rand.NewSource(8))
	for _, n := range []int{0, 1, 2, 300, api.MaxPayload} {
		b := plainFrame(randomBytes(r, n))
		for _, tail := range [][]byte{{0}, {0xc7}, randomBytes(r, 40), b} {
			if p, e := frame.Open(join(b, tail)); e != api.ErrTail || len(p) != 0 {
				t.Errorf("P9.5: a frame of %d bytes and %d behind it: %d bytes, %d, want ErrTail", n, len(tail), len(p), e)
			}
		}
		if p, e := frame.Open(b); e != api.OK || !bytes.Equal(p, b[12:]) {
			t.Errorf("P9.5: a frame of %d bytes: %d bytes, %d", n, len(p), e)
		}
	}
}

// nearly: bytes that are a frame, or nearly one.
func nearly(r *rand.Rand) []byte {
	b := plainFrame(randomBytes(r, r.Intn(8)))
	for range r.Intn(3) {
		b[r.Intn(len(b))] ^= 1 << r.Intn(8)
	}
	switch r.Intn(4) {
	case 0:
		b = b[:r.Intn(len(b)+1)]
	case 1:
		b = append(b, randomBytes(r, r.Intn(5))...)
	case 2:
		at := r.Intn(min(8, len(b)))
		b[at] = byte(r.Intn(256))
	}
	return b
}

func TestP9_4And5Random(t *testing.T) {
	r := rand.New(rand.NewSource(9))
	for range 50000 {
		holdsFirst(t, nearly(r))
		holdsFirst(t, randomBytes(r, r.Intn(20)))
	}
}
