package journal_test

import (
	"fmt"
	"math/rand"
	"slices"
	"strings"
	"testing"

	"redraft/api"
	"redraft/journal"
)

// several: records of no byte, one and more, some of which look like frames.
func several() []string {
	return []string{"", "a", "", "\xc7\x9d", string(framed(4, "inside")), "longer than the others", "\x00\x00\x00\x07", ""}
}

// asTold: Parse answers what the chapter's words say.
func asTold(t *testing.T, b []byte) {
	t.Helper()
	want, good, why := recordsOf(b)
	parsed(t, b, want, good, why)
}

func TestP12_2Sizes(t *testing.T) {
	for _, n := range []int{0, 1, 2, 3, 4, 5, 255, 256, 65535, 65536, greatest - 1, greatest} {
		r := strings.Repeat("n", n)
		parsed(t, run(r, r), []string{r, r}, 2*(16+n), api.OK)
	}
	// One byte more is no record: the frame says that it is too big.
	parsed(t, slices.Concat(run("a"), framed(1, strings.Repeat("n", greatest+1))), []string{"a"}, 17, api.ErrBig)
}

// Payloads with fewer than four bytes, as the first, behind a record, ahead of one.
func TestP12_2Cut(t *testing.T) {
	for n := range 4 {
		short := frameOf(make([]byte, n))
		parsed(t, short, nil, 0, api.ErrCut)
		parsed(t, slices.Concat(short, run("a")), nil, 0, api.ErrCut)
		parsed(t, slices.Concat(run("a", "b"), short, framed(2, "c")), []string{"a", "b"}, 34, api.ErrCut)
		parsed(t, slices.Concat(run("a"), frameOf([]byte{0, 0, 0, 1}[:n])), []string{"a"}, 17, api.ErrCut)
	}
}

// Every number that differs from the right one, in any of its bytes.
func TestP12_2Index(t *testing.T) {
	for bit := range 32 {
		wrong := 1 ^ 1<<bit
		parsed(t, slices.Concat(framed(0, "a"), framed(wrong, "b"), framed(2, "c")), []string{"a"}, 17, api.ErrIndex)
		parsed(t, framed(0^1<<bit, "a"), nil, 0, api.ErrIndex)
	}
	for _, order := range [][]int{{0, 0}, {0, 2}, {1}, {1, 0}, {0, 1, 1}, {0, 1, 0}, {0, 1, 3, 2}, {0, 2, 1}, {2, 1, 0}} {
		var b []byte
		for _, k := range order {
			b = append(b, framed(k, "rec")...)
		}
		n := 0
		for n < len(order) && order[n] == n {
			n++
		}
		parsed(t, b, slices.Repeat([]string{"rec"}, n), 19*n, api.ErrIndex)
	}
	whole := run(slices.Repeat([]string{"x"}, 300)...) // 256 and more: the number's bytes in their order
	parsed(t, whole, slices.Repeat([]string{"x"}, 300), 300*17, api.OK)
	parsed(t, slices.Concat(whole, framed(300>>8|300&255<<8, "")), slices.Repeat([]string{"x"}, 300), 300*17, api.ErrIndex)
}

// What stands ahead, between or behind.
func TestP12_2Strange(t *testing.T) {
	a, b := framed(0, "a"), framed(1, "b")
	parsed(t, slices.Concat([]byte{0}, a, b), nil, 0, api.ErrMark)
	parsed(t, slices.Concat(a, []byte{0}, b), []string{"a"}, 17, api.ErrMark)
	parsed(t, slices.Concat(a, b, []byte{0}), []string{"a", "b"}, 34, api.ErrMark)
	parsed(t, slices.Concat(a, b, []byte{0xc7}), []string{"a", "b"}, 34, api.ErrShort)
	parsed(t, slices.Concat(a, []byte{0xc7, 0x9d, 2, 0, 1, 0xfd, 0xff, 0xfe}, b), []string{"a"}, 17, api.ErrBig)
	parsed(t, slices.Concat(a, []byte{0xc7, 0x9d, 2, 0, 0, 0xfd, 0xff, 0xff}, b), []string{"a"}, 17, api.ErrShort)
}

// Frames, halves of frames, strange bytes, in any order.
func TestP12_2Mixed(t *testing.T) {
	r := rand.New(rand.NewSource(50))
	seen := map[api.Errno]int{}
	for range 60000 {
		var b []byte
		for k := range r.Intn(7) {
			f := framed(k, strings.Repeat("m", r.Intn(4)))
			switch r.Intn(14) {
			case 0:
				f = f[:r.Intn(len(f))]
			case 1:
				f = framed(r.Intn(4), "other")
			case 2:
				f = frameOf(make([]byte, r.Intn(4)))
			case 3:
				f[r.Intn(len(f))] ^= 1 << r.Intn(8)
			case 4:
				f = append(f, f...)
			case 5:
				f = append(f, byte(r.Intn(256)))
			case 6:
				f = framed(k, string(f))
			}
			b = append(b, f...)
		}
		_, _, why := journal.Parse(b)
		seen[why]++
		asTold(t, b)
	}
	for _, e := range []api.Errno{api.OK, api.ErrShort, api.ErrMark, api.ErrSum, api.ErrCut, api.ErrIndex} {
		if seen[e] < 100 {
			t.Errorf("only %d of error %d", seen[e], e)
		}
	}
}

// wholeFrames: how many frames of records lie within the first n bytes, and whether n stands between two of them.
func wholeFrames(records []string, n int) (whole int, between bool) {
	at := 0
	for _, r := range records {
		if at+16+len(r) > n {
			return whole, at == n
		}
		at += 16 + len(r)
		whole++
	}
	return whole, true
}

// A torn tail: cut at every length.
func TestP12_11(t *testing.T) {
	for _, list := range [][]string{nil, {""}, {"abc"}, several(), slices.Repeat([]string{"again"}, 20)} {
		b := run(list...)
		for n := range len(b) + 1 {
			whole, between := wholeFrames(list, n)
			why := api.ErrShort
			if between {
				why = api.OK
			}
			parsed(t, b[:n], list[:whole:whole], len(run(list[:whole]...)), why)
		}
	}
	great := []string{"small", strings.Repeat("g", greatest), "small"}
	b := run(great...)
	for _, n := range []int{20, 21, 22, 33, 34, 1000, len(b) - 22, len(b) - 21, len(b) - 20, len(b) - 1} {
		whole, between := wholeFrames(great, n)
		if _, good, why := journal.Parse(b[:n]); good != len(run(great[:whole]...)) || (why == api.OK) != between || !between && why != api.ErrShort {
			t.Fatalf("P12.11: cut to %d: %d good bytes, %d", n, good, why)
		}
	}
}

// One spoilt bit: every bit of all frames.
func TestP12_12(t *testing.T) {
	for _, list := range [][]string{{""}, {"abc"}, several(), slices.Repeat([]string{"again"}, 20)} {
		b := run(list...)
		for at := range b {
			whole, _ := wholeFrames(list, at)
			good := len(run(list[:whole]...))
			why := api.ErrSum
			if at-good < 8 {
				why = api.ErrMark
			}
			for bit := range 8 {
				spoilt := slices.Clone(b)
				spoilt[at] ^= 1 << bit
				parsed(t, spoilt, list[:whole:whole], good, why)
			}
		}
	}
}

// A bit of a great record, near its ends and within.
func TestP12_12Great(t *testing.T) {
	great := strings.Repeat("g", greatest)
	b := run("small", great, "small")
	for _, at := range []int{0, 7, 8, 11, 12, 15, 16, 17, 1000, greatest / 2, greatest + 14, greatest + 15} {
		for bit := range 8 {
			spoilt := slices.Clone(b)
			spoilt[21+at] ^= 1 << bit
			why := api.ErrSum
			if at < 8 {
				why = api.ErrMark
			}
			if list, good, e := journal.Parse(spoilt); !slices.Equal(strs(list), []string{"small"}) || good != 21 || e != why {
				t.Fatalf("P12.12: byte %d, bit %d: %s, %d, %d", at, bit, fmt.Sprint(len(list)), good, e)
			}
		}
	}
}

// Parse asks no disk: the same bytes, whatever journals have done meanwhile.
func TestP12_2Again(t *testing.T) {
	b := slices.Concat(run(several()...), []byte("tail"))
	asTold(t, b)
	d := loaded(t, wide, b, 0)
	mustOpen(t, d, 4, several()...)
	asTold(t, b)
}
