package page_test

import (
	"math"
	"testing"

	"redraft/api"
	"redraft/page"
)

const (
	least = math.MinInt
	huge  = math.MaxInt
)

// columns: columns on and beside tab stops, below 0, at the ends of all numbers.
var columns = []int{least, least + 1, math.MinInt32, -5, -4, -3, -2, -1, 0, 1, 2, 3, 4, 5, 6, 7, 8, 9, 1022, 1023, 1024, 1025, math.MaxInt32, huge - 4, huge - 3, huge - 2, huge - 1, huge}

// Each row of the table at its first and last rune and beside each; but for a tab the column is nothing to it.
func TestP19_2Table(t *testing.T) {
	for _, c := range []struct {
		r rune
		n int
	}{
		{0x8, 1}, {0xa, 0}, {0xb, 1},
		{0x2ff, 1}, {0x300, 0}, {0x301, 0}, {0x36e, 0}, {0x36f, 0}, {0x370, 1},
		{0x200a, 1}, {0x200b, 0}, {0x200c, 0}, {0x200d, 0}, {0x200e, 1},
		{0xfdff, 1}, {0xfe00, 0}, {0xfe01, 0}, {0xfe0e, 0}, {0xfe0f, 0}, {0xfe10, 1},
		{0x10ff, 1}, {0x1100, 2}, {0x1101, 2}, {0x115e, 2}, {0x115f, 2}, {0x1160, 1},
		{0x2e7f, 1}, {0x2e80, 2}, {0x303e, 2}, {0x303f, 1}, {0x3040, 1}, {0x3041, 2}, {0x3042, 2}, {0xa4ce, 2}, {0xa4cf, 2}, {0xa4d0, 1},
		{0xabff, 1}, {0xac00, 2}, {0xac01, 2}, {0xd7a2, 2}, {0xd7a3, 2}, {0xd7a4, 1},
		{0xf8ff, 1}, {0xf900, 2}, {0xf901, 2}, {0xfafe, 2}, {0xfaff, 2}, {0xfb00, 1},
		{0xfe2f, 1}, {0xfe30, 2}, {0xfe31, 2}, {0xfe6e, 2}, {0xfe6f, 2}, {0xfe70, 1},
		{0xfeff, 1}, {0xff00, 2}, {0xff01, 2}, {0xff5f, 2}, {0xff60, 2}, {0xff61, 1},
		{0xffdf, 1}, {0xffe0, 2}, {0xffe1, 2}, {0xffe5, 2}, {0xffe6, 2}, {0xffe7, 1},
		{0x1f2ff, 1}, {0x1f300, 2}, {0x1f301, 2}, {0x1fafe, 2}, {0x1faff, 2}, {0x1fb00, 1},
		{0x1ffff, 1}, {0x20000, 2}, {0x20001, 2}, {0x2ffff, 2}, {0x30000, 2}, {0x3fffc, 2}, {0x3fffd, 2}, {0x3fffe, 1}, {0x40000, 1},
		{0, 1}, {0x1f, 1}, {0x20, 1}, {'a', 1}, {'~', 1}, {0x7f, 1}, {0x80, 1}, {0xa0, 1}, {0xe9, 1}, {0xd800, 1}, {0xdfff, 1}, {0xfffd, 1}, {0x10ffff, 1}, {0x110000, 1},
		{-1, 1}, {-0xa, 1}, {-9, 1}, {-0x300, 1}, {math.MinInt32, 1}, {math.MinInt32 + 1, 1}, {math.MaxInt32 - 1, 1}, {math.MaxInt32, 1},
		{math.MinInt32 + 0x300, 1}, {math.MinInt32 + 0x3041, 1},
	} {
		for _, at := range columns {
			if n := page.Cols(c.r, at); n != c.n {
				t.Errorf("P19.2: Cols(%#x, %d) = %d, want %d", c.r, at, n, c.n)
			}
		}
	}
}

func TestP19_2Tab(t *testing.T) {
	for _, at := range columns {
		want := 4
		for k := range 4 { // the stop is as far as one can go without meeting one
			if at >= 0 && (uint(at)+uint(k)+1)%api.Tab == 0 {
				want = k + 1
				break
			}
		}
		if n := page.Cols('\t', at); n != want {
			t.Errorf("P19.2: Cols(tab, %d) = %d, want %d", at, n, want)
		}
	}
	for at, want := range []int{4, 3, 2, 1, 4, 3, 2, 1, 4} {
		if n := page.Cols('\t', at); n != want {
			t.Errorf("P19.2: Cols(tab, %d) = %d, want %d", at, n, want)
		}
	}
}

// All runes, and numbers behind them and below 0, by the table told again.
func TestP19_2AllRunes(t *testing.T) {
	for r := rune(-0x50000); r < 0x120000; r++ {
		for _, at := range []int{-1, 0, 3} {
			if n, want := page.Cols(r, at), wantCols(r, at); n != want {
				t.Fatalf("P19.2: Cols(%#x, %d) = %d, want %d", r, at, n, want)
			}
		}
	}
	for i := range 1 << 16 {
		r := rune(math.MinInt32 + i*65537%(1<<32))
		if n, want := page.Cols(r, i), wantCols(r, i); n != want {
			t.Fatalf("P19.2: Cols(%#x, %d) = %d, want %d", r, i, n, want)
		}
	}
}
