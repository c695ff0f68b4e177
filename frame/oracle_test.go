package frame_test

import (
	"bytes"
	"encoding/hex"
	"math/rand"
	"strings"
	"testing"

	"redraft/api"
	"redraft/frame"
)

// The oracle reads the chapter word by word: its checksum goes bit by bit, its frame is put together and held against the bytes as a whole.

// plainSum: the chapter's checksum, one bit at a time.
func plainSum(b []byte) api.Sum {
	register := uint32(0xffffffff)
	for _, x := range b {
		register ^= uint32(x)
		for range 8 {
			if register%2 == 1 {
				register = register/2 ^ 0x82f63b78
			} else {
				register = register / 2
			}
		}
	}
	register = 0xffffffff - register
	return api.Sum{byte(register / 0x1000000), byte(register / 0x10000 % 0x100), byte(register / 0x100 % 0x100), byte(register % 0x100)}
}

// plainFrame: the chapter's table, row by row.
func plainFrame(payload []byte) []byte {
	n := len(payload)
	size := []byte{byte(n / 65536), byte(n / 256 % 256), byte(n % 256)}
	sum := plainSum(payload)
	out := []byte{0xc7, 0x9d}
	out = append(out, size...)
	for _, x := range size {
		out = append(out, 255-x)
	}
	out = append(out, sum[0], sum[1], sum[2], sum[3])
	return append(out, payload...)
}

// plainFirst: P9.4, line by line. sum is the checksum that it believes in.
func plainFirst(b []byte, sum func([]byte) api.Sum) ([]byte, int, api.Errno) {
	if len(b) == 0 {
		return nil, 0, api.ErrShort
	}
	if b[0] != 0xc7 {
		return nil, 0, api.ErrMark
	}
	if len(b) == 1 {
		return nil, 0, api.ErrShort
	}
	if b[1] != 0x9d {
		return nil, 0, api.ErrMark
	}
	if len(b) < 8 {
		return nil, 0, api.ErrShort
	}
	for i := 2; i < 5; i++ {
		if int(b[i])+int(b[i+3]) != 255 {
			return nil, 0, api.ErrMark
		}
	}
	n := int(b[2])*65536 + int(b[3])*256 + int(b[4])
	if n > 131072 {
		return nil, 0, api.ErrBig
	}
	if len(b) < 12+n {
		return nil, 0, api.ErrShort
	}
	payload := b[12 : 12+n]
	if s := sum(payload); !bytes.Equal(s[:], b[8:12]) {
		return nil, 0, api.ErrSum
	}
	return payload, 12 + n, api.OK
}

// plainScan: P9.6.
func plainScan(b []byte) ([][]byte, int, api.Errno) {
	payload, n, e := plainFirst(b, plainSum)
	if len(b) == 0 {
		return nil, 0, api.OK
	}
	if e != api.OK {
		return nil, 0, e
	}
	list, m, e := plainScan(b[n:])
	return append([][]byte{payload}, list...), n + m, e
}

// plainSplitter: P9.7, with all that was ever fed; the stream is gone through anew at each piece, so that no piece is seen.
type plainSplitter struct {
	fed  []byte
	told int
	lost int
	held int
}

func (s *plainSplitter) feed(piece []byte) [][]byte {
	s.fed = append(s.fed, piece...)
	var all [][]byte
	at, lost := 0, 0
	for at < len(s.fed) {
		payload, n, e := plainFirst(s.fed[at:], plainSum)
		if e == api.ErrShort {
			break
		}
		if e == api.OK {
			all = append(all, bytes.Clone(payload))
			at += n
			continue
		}
		at++
		lost++
	}
	s.lost, s.held = lost, len(s.fed)-at
	news := all[s.told:]
	s.told = len(all)
	return news
}

func unhex(t *testing.T, s string) []byte {
	t.Helper()
	b, err := hex.DecodeString(strings.ReplaceAll(s, " ", ""))
	if err != nil {
		t.Fatal(err)
	}
	return b
}

func join(lists ...[]byte) []byte { return bytes.Join(lists, nil) }

func same(a, b [][]byte) bool {
	if len(a) != len(b) {
		return false
	}
	for i := range a {
		if !bytes.Equal(a[i], b[i]) {
			return false
		}
	}
	return true
}

// wrapped: a payload's frame, which must be right.
func wrapped(t *testing.T, payload []byte) []byte {
	t.Helper()
	b, e := frame.Wrap(payload)
	if e != api.OK || !bytes.Equal(b, plainFrame(payload)) {
		t.Fatalf("P9.3: Wrap of %d bytes = %d bytes, %d", len(payload), len(b), e)
	}
	return b
}

func randomBytes(r *rand.Rand, n int) []byte {
	b := make([]byte, n)
	r.Read(b)
	return b
}

// short: a list as the messages of tests show it.
func short(b []byte) string {
	if len(b) > 40 {
		return hex.EncodeToString(b[:40]) + ".."
	}
	return hex.EncodeToString(b)
}

// holdsFirst: First and Open of b, beside the oracle; b is as it was.
func holdsFirst(t *testing.T, b []byte) {
	t.Helper()
	in := bytes.Clone(b)
	want, n, e := plainFirst(b, plainSum)
	got, m, f := frame.First(in)
	if !bytes.Equal(got, want) || m != n || f != e {
		t.Fatalf("P9.4: First(%s) of %d bytes = %s, %d, %d, want %s, %d, %d", short(b), len(b), short(got), m, f, short(want), n, e)
	}
	if e == api.OK && n < len(b) {
		want, e = nil, api.ErrTail
	}
	got, f = frame.Open(in)
	if !bytes.Equal(got, want) || f != e {
		t.Fatalf("P9.5: Open(%s) of %d bytes = %s, %d, want %s, %d", short(b), len(b), short(got), f, short(want), e)
	}
	if !bytes.Equal(in, b) {
		t.Fatalf("P9.1: %s was changed to %s", short(b), short(in))
	}
}

// holdsScan: Scan of b, beside the oracle.
func holdsScan(t *testing.T, b []byte) {
	t.Helper()
	in := bytes.Clone(b)
	want, n, e := plainScan(b)
	got, m, f := frame.Scan(in)
	if !same(got, want) || m != n || f != e {
		t.Fatalf("P9.6: Scan(%s) of %d bytes = %d payloads, %d, %d, want %d, %d, %d", short(b), len(b), len(got), m, f, len(want), n, e)
	}
	if !bytes.Equal(in, b) {
		t.Fatalf("P9.1: %s was changed to %s", short(b), short(in))
	}
}
