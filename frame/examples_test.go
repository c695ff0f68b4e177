package frame_test

import (
	"bytes"
	"testing"

	"redraft/api"
	"redraft/frame"
)

// The chapter's table of worked examples, row by row.

const emptyFrame = "c7 9d 00 00 00 ff ff ff 00 00 00 00"

func TestExamplesChecksum(t *testing.T) {
	for _, c := range []struct {
		b    []byte
		want api.Sum
	}{
		{[]byte("123456789"), api.Sum{0xe3, 0x06, 0x92, 0x83}},
		{nil, api.Sum{}},
		{[]byte{}, api.Sum{}},
		{[]byte{0}, api.Sum{0x52, 0x7d, 0x53, 0x51}},
		{[]byte{0, 0, 0, 0}, api.Sum{0x48, 0x67, 0x4b, 0xc7}},
	} {
		if got := frame.Checksum(c.b); got != c.want {
			t.Errorf("P9.2: Checksum(%x) = %x, want %x", c.b, got, c.want)
		}
	}
}

func TestExamplesWrap(t *testing.T) {
	for _, c := range []struct {
		payload []byte
		want    string
	}{
		{nil, emptyFrame},
		{[]byte{}, emptyFrame},
		{[]byte{0}, "c7 9d 00 00 01 ff ff fe 52 7d 53 51 00"},
	} {
		if got, e := frame.Wrap(c.payload); e != api.OK || !bytes.Equal(got, unhex(t, c.want)) {
			t.Errorf("P9.3: Wrap(%x) = %x, %d, want %s", c.payload, got, e, c.want)
		}
	}
}

func TestExamplesFirst(t *testing.T) {
	for _, c := range []struct {
		b string
		n int
		e api.Errno
	}{
		{emptyFrame + "c7", 12, api.OK},
		{"c7 9c", 0, api.ErrMark},
		{"c7", 0, api.ErrShort},
		{"00", 0, api.ErrMark},
		{"c7 9d 02 00 01 fd ff fe", 0, api.ErrBig},
		{"c7 9d 02 00 00 fd ff ff", 0, api.ErrShort},
		{"c7 9d 02 00 01 fd ff", 0, api.ErrShort},
	} {
		if p, n, e := frame.First(unhex(t, c.b)); len(p) != 0 || n != c.n || e != c.e {
			t.Errorf("P9.4: First(%s) = %x, %d, %d, want %d, %d", c.b, p, n, e, c.n, c.e)
		}
	}
}

func TestExamplesOpen(t *testing.T) {
	for _, c := range []struct {
		b string
		e api.Errno
	}{
		{emptyFrame, api.OK},
		{emptyFrame + "c7", api.ErrTail},
		{"c7 9d 00 00 00 ff ff ff 00 00 00 01", api.ErrSum},
		{"c7 9d 00 00 01 ff ff fe 00 00 00 00", api.ErrShort},
		{"c7 9d 00 00 01 ff ff ff 00 00 00 00 00", api.ErrMark},
	} {
		if p, e := frame.Open(unhex(t, c.b)); len(p) != 0 || e != c.e {
			t.Errorf("P9.5: Open(%s) = %x, %d, want %d", c.b, p, e, c.e)
		}
	}
}

func TestExamplesScan(t *testing.T) {
	for _, c := range []struct {
		b        string
		count, n int
		e        api.Errno
	}{
		{"", 0, 0, api.OK},
		{emptyFrame + emptyFrame + "c7 9d 00", 2, 24, api.ErrShort},
		{emptyFrame + "00", 1, 12, api.ErrMark},
	} {
		list, n, e := frame.Scan(unhex(t, c.b))
		if !same(list, make([][]byte, c.count)) || n != c.n || e != c.e {
			t.Errorf("P9.6: Scan(%s) = %x, %d, %d, want %d, %d, %d", c.b, list, n, e, c.count, c.n, c.e)
		}
	}
}

func TestExamplesFeed(t *testing.T) {
	type fed struct {
		piece             string
		count, lost, held int
	}
	for _, c := range [][]fed{
		{{"00 c7", 0, 1, 1}, {"9d 00 00 00 ff ff", 0, 1, 7}, {"ff 00 00 00 00 9d", 1, 2, 0}},
		{{"c7 c7 9d 00 00 00 ff ff ff 00 00 00 00 c7", 1, 1, 1}},
	} {
		s := frame.NewSplitter()
		for _, f := range c {
			list := s.Feed(unhex(t, f.piece))
			if !same(list, make([][]byte, f.count)) || s.Lost() != f.lost || s.Held() != f.held {
				t.Errorf("P9.7: Feed(%s) = %x, Lost %d, Held %d, want %d, %d, %d", f.piece, list, s.Lost(), s.Held(), f.count, f.lost, f.held)
			}
		}
	}
}
