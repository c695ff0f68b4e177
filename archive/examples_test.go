package archive_test

import (
	"bytes"
	"encoding/hex"
	"strings"
	"testing"

	"redraft/api"
	"redraft/archive"
	"redraft/desk"
	"redraft/frame"
)

// The chapter's worked examples, row by row.

func unhex(t *testing.T, s string) []byte {
	t.Helper()
	b, err := hex.DecodeString(strings.ReplaceAll(s, " ", ""))
	if err != nil {
		t.Fatal(err)
	}
	return b
}

func sumHex(b []byte) string {
	s := frame.Checksum(b)
	return hex.EncodeToString(s[:])
}

// written by hand: a payload in its frame, the length and its turned bytes told.
func byHand(t *testing.T, guard, payload string) []byte {
	t.Helper()
	return unhex(t, "c7 9d"+guard+sumHex(unhex(t, payload))+payload)
}

func exampleHead(t *testing.T) []byte {
	return byHand(t, "00 00 09 ff ff f6", "72 65 64 72 61 66 74 01 01")
}

func exampleA(t *testing.T) []byte {
	return byHand(t, "00 00 0b ff ff f4", "63 00 00 00 00 01 01 01 00 01 61")
}

func exampleB(t *testing.T) []byte {
	return byHand(t, "00 00 0b ff ff f4", "63 00 00 00 01 01 01 02 01 01 62")
}

func exampleFoot(t *testing.T, n string, commands string) []byte {
	return byHand(t, "00 00 0d ff ff f2", "65 00 00 00"+n+"00 00 00"+n+sumHex(unhex(t, commands)))
}

func exampleNone(t *testing.T) []byte {
	return join(exampleHead(t), exampleFoot(t, "00", ""))
}

func exampleOne(t *testing.T) []byte {
	return join(exampleHead(t), exampleA(t), exampleFoot(t, "01", "01 01 01 00 01 61"))
}

func example(t *testing.T) []byte {
	return join(exampleHead(t), exampleA(t), exampleB(t), exampleFoot(t, "02", "01 01 01 00 01 61 01 01 02 01 01 62"))
}

func put(t *testing.T, r *desk.Replica, i int, o api.Op) {
	t.Helper()
	if _, err := r.Put(i, o); err != nil {
		t.Fatalf("chapter 8: %v", err)
	}
}

func TestExamplesFrames(t *testing.T) {
	r := desk.NewReplica()
	if foot := exampleFoot(t, "00", ""); !bytes.HasSuffix(foot, make([]byte, 12)) || foot[12] != 0x65 || len(foot) != 25 {
		t.Fatalf("the example is another one: %x", foot)
	}
	if b, e := archive.Save(r); e != api.OK || len(b) != 46 || !bytes.Equal(b, exampleNone(t)) {
		t.Errorf("P22.2: Save of an empty view: %x, %d", b, e)
	}
	put(t, r, 0, ins(1, 1, 0, "a"))
	if b, e := archive.Save(r); e != api.OK || len(b) != 69 || !bytes.Equal(b, exampleOne(t)) {
		t.Errorf("P22.2: Save of one command: %x, %d", b, e)
	}
	put(t, r, 1, ins(1, 2, 1, "b"))
	if b, e := archive.Save(r); e != api.OK || len(b) != 92 || !bytes.Equal(b, example(t)) {
		t.Errorf("P22.2: Save of two commands: %x, %d", b, e)
	}
}

func TestExamplesRead(t *testing.T) {
	b := example(t)
	sum := frame.Checksum(unhex(t, "01 01 01 00 01 61 01 01 02 01 01 62"))
	if s, e := archive.Tell(b); s != (api.Summary{Commands: 2, Cells: 2, Sum: sum}) || e != api.OK {
		t.Errorf("P22.3: Tell(b) = %v, %d", s, e)
	}
	if v, e := archive.Load(b); e != api.OK || v.Text() != "ab" {
		t.Errorf("P22.4: Load(b): %d", e)
	}
	if one, e := archive.Cut(b, 1); e != api.OK || !bytes.Equal(one, exampleOne(t)) {
		t.Errorf("P22.6: Cut(b, 1) = %x, %d", one, e)
	}
	if none, e := archive.Cut(b, 3); e != api.ErrPlace || len(none) != 0 {
		t.Errorf("P22.6: Cut(b, 3) = %x, %d", none, e)
	}
	for _, c := range []struct {
		what string
		b    []byte
		e    api.Errno
	}{
		{"the first 91 bytes", b[:91], api.ErrShort},
		{"one byte more", join(b, []byte{0}), api.ErrTail},
		{"the head and the foot", join(b[:21], b[67:]), api.ErrCount},
		{"the commands' frames exchanged", join(b[:21], b[44:67], b[21:44], b[67:]), api.ErrIndex},
	} {
		if s, e := archive.Tell(c.b); s != (api.Summary{}) || e != c.e {
			t.Errorf("P22.3: Tell, %s: %v, %d, want %d", c.what, s, e, c.e)
		}
	}
	alone := archiveOf(hide(1, 1, 0, 1))
	if v, e := archive.Load(alone); v != nil || e != api.ErrPlace {
		t.Errorf("P22.4: Load of a Hide of no cell: %d", e)
	}
	if s, e := archive.Tell(alone); s.Commands != 1 || s.Cells != 0 || e != api.OK {
		t.Errorf("P22.3: Tell of a Hide of no cell: %v, %d", s, e)
	}
}

func TestExamplesRescue(t *testing.T) {
	b := example(t)
	for _, c := range []struct {
		what  string
		b     []byte
		saved []byte
		lost  int
		e     api.Errno
	}{
		{"80 bytes", b[:80], b, 13, api.OK},
		{"66 bytes", b[:66], exampleOne(t), 22, api.OK},
		{"bytes 21 to 43", b[21:44], exampleOne(t), 0, api.OK},
		{"without the first command", join(b[:21], b[44:]), exampleNone(t), 48, api.OK},
		{"three times 00", []byte{0, 0, 0}, nil, 0, api.ErrFormat},
	} {
		if saved, lost, e := archive.Rescue(c.b); !bytes.Equal(saved, c.saved) || lost != c.lost || e != c.e {
			t.Errorf("P22.10: %s: %x, %d, %d", c.what, saved, lost, e)
		}
	}
}

func TestExamplesTwo(t *testing.T) {
	b := example(t)
	one, e := archive.Cut(b, 1)
	if e != api.OK {
		t.Fatalf("P22.6: %d", e)
	}
	if joined, shared, e := archive.Join(one, b); !bytes.Equal(joined, b) || shared != 1 || e != api.OK {
		t.Errorf("P22.7: Join(Cut(b, 1), b) = %x, %d, %d", joined, shared, e)
	}
	if d, e := archive.Delta(b, one); len(d) != 0 || e != api.ErrApart {
		t.Errorf("P22.8: Delta(b, Cut(b, 1)) = %x, %d", d, e)
	}
	d, e := archive.Delta(one, b)
	want := join(
		byHand(t, "00 00 11 ff ff ee", "72 65 64 72 61 66 74 01 02 00 00 00 01"+sumHex(unhex(t, "01 01 01 00 01 61"))),
		exampleB(t),
		exampleFoot(t, "01", "01 01 02 01 01 62"),
	)
	if e != api.OK || !bytes.Equal(d, want) {
		t.Errorf("P22.8: Delta(Cut(b, 1), b) = %x, %d, want %x", d, e, want)
	}
	if p, e := archive.Patch(one, d); !bytes.Equal(p, b) || e != api.OK {
		t.Errorf("P22.9: Patch(Cut(b, 1), Delta(Cut(b, 1), b)) = %x, %d", p, e)
	}
	if p, e := archive.Patch(b, d); len(p) != 0 || e != api.ErrApart {
		t.Errorf("P22.9: Patch(b, Delta(Cut(b, 1), b)) = %x, %d", p, e)
	}
}
