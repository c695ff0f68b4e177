package journal_test

import (
	"slices"
	"strings"
	"testing"

	"redraft/api"
)

// At the bounds and beside them: every pair of numbers.
func TestP12_8Bounds(t *testing.T) {
	x := newPair(t, wide)
	x.all(opened())
	list := several()
	for i, r := range list {
		x.all(appended(0, r))
		if i == 4 {
			x.all(synced(0))
		}
	}
	numbers := append([]int{-2, -1}, far...)
	for i := range len(list) + 3 {
		numbers = append(numbers, i)
	}
	for _, lo := range numbers {
		for _, hi := range numbers {
			got := x.do(records(0, lo, hi))
			if lo < 0 || lo > hi || hi > len(list) {
				if got.trouble != (trouble{"Records", lo, api.ErrPlace}) {
					t.Fatalf("P12.8: Records(%d, %d): %v", lo, hi, got.trouble)
				}
			} else if got.trouble != (trouble{}) || !slices.Equal(got.records, list[lo:hi]) {
				t.Fatalf("P12.8: Records(%d, %d) = %q, %v", lo, hi, got.records, got.trouble)
			}
		}
	}
	x.all(opened()) // and of what Open has found
	x.is(records(1, 0, len(list)), 0, api.OK)
	x.is(records(1, 0, len(list)+1), 0, api.ErrPlace)
}

func TestP12_8Great(t *testing.T) {
	d := made(t, wide)
	j := mustOpen(t, d, 0)
	great := strings.Repeat("g", greatest)
	for _, r := range []string{great, "small", great} {
		must(t, j.Append([]byte(r)))
	}
	list, err := j.Records(0, 3)
	if err != nil || !slices.Equal(strs(list), []string{great, "small", great}) {
		t.Fatalf("P12.8: %d records, %v", len(list), err)
	}
}

// Every bit of a file turned: the first spoilt record among those that are asked for is told, others can be read.
func TestP12_8Spoilt(t *testing.T) {
	list := []string{"ab", "", "c"}
	starts := []int{0, 18, 34, 51}
	d := made(t, wide)
	j := mustOpen(t, d, 0)
	for _, r := range list {
		must(t, j.Append([]byte(r)))
	}
	for at := range 51 {
		spoilt := 0
		for at >= starts[spoilt+1] {
			spoilt++
		}
		e := api.ErrSum
		if at-starts[spoilt] < 8 {
			e = api.ErrMark
		}
		for bit := range 8 {
			d.Turn(log, at, 1<<bit)
			for lo := range 4 {
				for hi := lo; hi < 4; hi++ {
					got, err := j.Records(lo, hi)
					if lo <= spoilt && spoilt < hi {
						mustFail(t, err, "Records", spoilt, e)
						if len(got) != 0 {
							t.Fatalf("P12.1: beside an error: %q", got)
						}
					} else if err != nil || !slices.Equal(strs(got), list[lo:hi]) {
						t.Fatalf("P12.8: Records(%d, %d) = %q, %v", lo, hi, got, err)
					}
				}
			}
			d.Turn(log, at, 1<<bit)
		}
	}
	if j.Err() != nil {
		t.Error("P12.8: Records has closed the journal")
	}
	must(t, j.Append(nil))
}

// Other bytes of the same length in a record's place: each error that can be told, by the frame's own bytes.
func TestP12_8Strange(t *testing.T) {
	for _, c := range []struct {
		b  []byte // in the place of record 1, "123456789012": 28 bytes
		e  api.Errno
		at int
	}{
		{framed(1, "other bytes!"), api.OK, 0},
		{framed(0, "123456789012"), api.ErrIndex, 1},
		{framed(2, "123456789012"), api.ErrIndex, 1},
		{framed(1<<24|1, "123456789012"), api.ErrIndex, 1},
		{slices.Concat(frameOf([]byte{0, 0, 0}), make([]byte, 13)), api.ErrTail, 1},
		{slices.Concat(framed(1, "ab"), make([]byte, 10)), api.ErrTail, 1},
		{slices.Concat(framed(0, "ab"), make([]byte, 10)), api.ErrTail, 1},
		{framed(1, "1234567890123")[:28], api.ErrShort, 1},
		{slices.Concat([]byte{0xc7, 0x9d, 2, 0, 1, 0xfd, 0xff, 0xfe}, make([]byte, 20)), api.ErrBig, 1},
		{make([]byte, 28), api.ErrMark, 1},
		{slices.Concat(framed(1, "12345678901")[:8], framed(1, "123456789012")[8:]), api.ErrSum, 1},
	} {
		x := newPair(t, wide)
		x.all(opened(), appended(0, "a"), appended(0, "123456789012"), appended(0, "c"))
		x.all(fileCut(17), fileAppend(c.b), fileAppend(framed(2, "c")))
		x.holds(17+28+17, 0)
		x.is(records(0, 0, 3), c.at, c.e)
		x.is(records(0, 1, 2), c.at, c.e)
		x.is(records(0, 0, 1), 0, api.OK)
		x.is(records(0, 2, 3), 0, api.OK)
		x.is(appended(0, "d"), 0, api.OK) // Records has closed nothing
	}
	// Two spoilt ones: the first is told.
	x := first(t)
	x.all(fileTurn(0, 1), fileTurn(50, 1))
	x.is(records(0, 0, 3), 0, api.ErrMark)
	x.is(records(0, 1, 3), 2, api.ErrSum)
}

// A payload of fewer than four bytes, of a frame just as long as the record's was, can't be: the least record's frame has sixteen bytes. So ErrCut lies behind the frame's own errors.
func TestP12_8NeverCut(t *testing.T) {
	for n := range 4 {
		x := newPair(t, wide)
		x.all(opened(), appended(0, ""))
		short := frameOf(make([]byte, n))
		x.all(fileCut(0), fileAppend(append(short, make([]byte, 16-len(short))...)))
		x.is(records(0, 0, 1), 0, api.ErrTail)
	}
}

// Records asks a closed journal too, and a disk that is down, or a file that is shorter, longer or gone.
func TestP12_8Others(t *testing.T) {
	x := first(t)
	x.all(fileAppend([]byte("longer")))
	x.is(records(0, 0, 3), 0, api.OK)
	x.is(appended(0, "d"), 3, api.ErrClosed)
	x.is(records(0, 0, 3), 0, api.OK) // closed
	x.all(fileCut(50))
	x.is(records(0, 0, 3), 0, api.ErrPlace)
	x.is(records(0, 1, 3), 1, api.ErrPlace)
	x.is(records(0, 2, 3), 2, api.ErrPlace)
	x.is(records(0, 0, 2), 0, api.OK)
	x.all(crash(0))
	x.is(records(0, 1, 2), 1, api.ErrDown)
	x.is(records(0, 2, 2), 0, api.OK) // the disk is not asked
	x.is(records(0, 3, 3), 0, api.OK)
	x.is(records(0, 4, 4), 4, api.ErrPlace)
	x.is(records(0, 2, 1), 2, api.ErrPlace) // ahead of the disk's error
	x.all(up(), fileRemove())
	x.is(records(0, 2, 3), 2, api.ErrFile)
	x.is(records(0, 0, 0), 0, api.OK)

	// An open journal stays open whatever Records meets.
	y := first(t)
	y.all(crash(17))
	y.is(records(0, 0, 3), 0, api.ErrDown)
	y.all(up())
	y.is(appended(0, "d"), 0, api.OK)
}

// A journal without records has none to tell.
func TestP12_8None(t *testing.T) {
	j := mustOpen(t, made(t, wide), 0)
	if list, err := j.Records(0, 0); err != nil || len(list) != 0 {
		t.Errorf("P12.8: %q, %v", list, err)
	}
	for _, n := range append([]int{-1, 1}, far...) {
		_, err := j.Records(n, n)
		mustFail(t, err, "Records", n, api.ErrPlace)
	}
}
