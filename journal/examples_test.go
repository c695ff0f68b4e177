package journal_test

import (
	"bytes"
	"encoding/hex"
	"slices"
	"strings"
	"testing"

	"redraft/api"
	"redraft/journal"
)

// first: the chapter's example 1.
func first(t *testing.T) *pair {
	t.Helper()
	x := newPair(t, wide)
	x.is(opened(), 0, api.OK)
	x.holds(-1, 0)
	x.is(appended(0, "ab"), 0, api.OK)
	x.holds(18, 0)
	x.is(appended(0, ""), 0, api.OK)
	x.holds(34, 0)
	x.knows(2, 0)
	x.is(synced(0), 0, api.OK)
	x.holds(34, 34)
	x.knows(2, 2)
	x.is(appended(0, "c"), 0, api.OK)
	x.holds(51, 34)
	x.knows(3, 2)
	return x
}

// knows: what the journal that was opened last knows.
func (x *pair) knows(length, durable int) {
	x.t.Helper()
	j := x.js[len(x.js)-1]
	if j.Len() != length || j.Durable() != durable {
		x.t.Fatalf("P12.4: Len %d, Durable %d, want %d, %d", j.Len(), j.Durable(), length, durable)
	}
}

// found: Open must answer these records and this cut.
func (x *pair) found(cut int, want ...string) {
	x.t.Helper()
	got := x.do(opened())
	if got.n != cut || !slices.Equal(got.records, want) || got.trouble != (trouble{}) {
		x.t.Fatalf("%v: Open = %v, want %q, cut %d", x.steps, got, want, cut)
	}
	x.knows(len(want), len(want))
}

func TestExamples1to3(t *testing.T) {
	x := first(t)
	x.all(crash(7), up())
	x.holds(41, 41)
	err := x.js[0].Append([]byte("d"))
	mustFail(t, err, "Append", 3, api.ErrClosed)
	if x.js[0].Err() != err {
		t.Error("P12.4: Err is another error")
	}
	mustFail(t, x.js[0].Append([]byte("e")), "Append", 3, api.ErrClosed)
	mustOpen(t, x.d, 7, "ab", "")
	fileIs(t, x.d, 34, 34)

	y := first(t)
	y.all(crash(17), up())
	y.holds(51, 51)
	y.found(0, "ab", "", "c")
}

func TestExample4(t *testing.T) {
	for _, c := range []struct {
		b    []byte
		want []string
		good int
		why  api.Errno
	}{
		{slices.Concat(framed(0, "zero"), framed(2, "two")), []string{"zero"}, 20, api.ErrIndex},
		{frameOf([]byte{0, 0}), nil, 0, api.ErrCut},
		{slices.Concat(framed(0, "zero"), framed(0, "zero")), []string{"zero"}, 20, api.ErrIndex},
		{nil, nil, 0, api.OK},
	} {
		parsed(t, c.b, c.want, c.good, c.why)
	}
}

// parsed: Parse must answer so.
func parsed(t *testing.T, b []byte, want []string, good int, why api.Errno) {
	t.Helper()
	list, n, e := journal.Parse(b)
	if !slices.Equal(strs(list), want) || n != good || e != why {
		t.Fatalf("P12.2: Parse(%.200x) = %.200q, %d, %d, want %.200q, %d, %d", b, list, n, e, want, good, why)
	}
}

func TestExample5(t *testing.T) {
	x := newPair(t, wide)
	x.all(opened(), opened())
	x.is(appended(0, "x"), 0, api.OK)
	x.is(appended(1, "y"), 0, api.ErrClosed)
	x.is(appended(0, "z"), 0, api.OK)
	x.is(synced(0), 0, api.OK)
	x.found(0, "x", "z")
}

func TestExample6(t *testing.T) {
	x := newPair(t, wide)
	x.all(opened())
	x.is(appended(0, strings.Repeat("b", 131069)), 0, api.ErrBig)
	x.holds(-1, 0)
	x.is(appended(0, strings.Repeat("b", 131068)), 0, api.OK)
	x.holds(131084, 0)

	x = newPair(t, 40)
	x.all(opened(), appended(0, "ab"), appended(0, ""))
	x.is(appended(0, "c"), 2, api.ErrFull)
	x.knows(2, 0)
	x.holds(34, 0)
	x.is(synced(0), 0, api.OK)
	x.knows(2, 2)
}

func TestExample7(t *testing.T) {
	x := first(t)
	if got := x.do(records(0, 1, 2)).records; !slices.Equal(got, []string{""}) {
		t.Fatalf("P12.8: %q", got)
	}
	x.is(records(0, 2, 1), 2, api.ErrPlace)
	x.is(records(0, 0, 4), 0, api.ErrPlace)
	x.all(fileTurn(17, 1))
	x.is(records(0, 0, 2), 0, api.ErrSum)
	if got := x.do(records(0, 1, 2)).records; !slices.Equal(got, []string{""}) {
		t.Fatalf("P12.8: %q", got)
	}
}

// The file's very bytes: the mark, the length, the length turned, the checksum, the number, the record.
func TestTheFile(t *testing.T) {
	d := made(t, wide)
	j := mustOpen(t, d, 0)
	must(t, j.Append([]byte("ab")))
	must(t, j.Append(nil))
	b, e := d.Read(log, 0, 34)
	if e != api.OK || !bytes.Equal(b, run("ab", "")) {
		t.Fatalf("The file: %x, %d, want %x", b, e, run("ab", ""))
	}
	// The checksum of four zero bytes stands among chapter 9's examples.
	if got := hex.EncodeToString(framed(0, "")); got != "c79d000004fffffb48674bc700000000" {
		t.Fatalf("The file: an empty record 0 is %s", got)
	}
}

// Numbers of more than one byte: the highest first.
func TestTheFileNumbers(t *testing.T) {
	const n = 66000
	d := made(t, wide)
	j := mustOpen(t, d, 0)
	var want []string
	for k := range n {
		r := strings.Repeat("r", k%3)
		must(t, j.Append([]byte(r)))
		want = append(want, r)
	}
	fileIs(t, d, len(run(want...)), 0)
	if b := d.Files()[0].Bytes; !bytes.Equal(b, run(want...)) {
		t.Fatal("The file: other bytes")
	}
	must(t, j.Sync())
	if j.Durable() != n {
		t.Fatalf("P12.7: Durable %d", j.Durable())
	}
	mustOpen(t, d, 0, want...)
	list, err := j.Records(255, n-1)
	if err != nil || !slices.Equal(strs(list), want[255:n-1]) {
		t.Fatalf("P12.8: %d records, %v", len(list), err)
	}
}
