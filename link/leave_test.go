package link_test

import (
	"testing"

	"redraft/api"
)

// abc: five packets in flight, out of eight numbers: 1 was delivered, 4 dropped, 6 is a spoilt copy of 2, 7 delivered.
func abc(t *testing.T, most int) *pair {
	t.Helper()
	x := newPair(t, 3, most)
	x.all(send(packet(0, 1, "a"), packet(1, 0, "bb"), packet(2, 2, "ccc"), packet(0, 2, ""), packet(1, 2, "e")), deliver(1), double(0), drop(4), double(2), spoil(6, 1, 0x80), double(3), deliver(7))
	if got, want := told(x.n), `[{0 0>1 "a" false} {2 2>2 "ccc" false} {3 0>2 "" false} {5 0>1 "a" false} {6 2>2 "c\xe3c" true}] 5 8`; got != want {
		t.Fatalf("P16.8: %s, want %s", got, want)
	}
	return x
}

// byNumber: the calls that take a number.
var byNumber = []func(k int) call{deliver, drop, double, func(k int) call { return spoil(k, 0, 1) }, func(k int) call { return spoil(k, -1, 0) }}

// Numbers that were in flight, that were never given out, below 0 and far beyond.
func TestP16_4to7NoSuchNumber(t *testing.T) {
	x := abc(t, 9)
	for _, k := range append([]int{1, 4, 7, 8, 9, -1, -2, -8, 100}, far...) {
		for _, c := range byNumber {
			x.stays("no such number", c(k), api.ErrPacket)
		}
	}
	for _, k := range []int{0, 2, 3, 5, 6} {
		x.all(double(k), deliver(k))
		for _, c := range byNumber {
			x.stays("it was delivered", c(k), api.ErrPacket)
		}
	}
	for k := 8; k < 13; k++ {
		x.do(drop(k))
		for _, c := range byNumber {
			x.stays("it was dropped", c(k), api.ErrPacket)
		}
	}
	if got := told(x.n); got != "[] 0 13" {
		t.Fatalf("P16.8: %s", got)
	}
}

// Packets leave in every order, by Deliver or Drop: just the one that is named, each once.
func TestP16_4And5AnyOrder(t *testing.T) {
	var orders [][]int
	var lay func(done []int)
	lay = func(done []int) {
		if len(done) == 5 {
			orders = append(orders, append([]int{}, done...))
			return
		}
	next:
		for _, k := range []int{0, 2, 3, 5, 6} {
			for _, d := range done {
				if d == k {
					continue next
				}
			}
			lay(append(done, k))
		}
	}
	lay(nil)
	flights := map[int]string{0: `{0 0>1 "a" false}`, 2: `{2 2>2 "ccc" false}`, 3: `{3 0>2 "" false}`, 5: `{5 0>1 "a" false}`, 6: `{6 2>2 "c\xe3c" true}`}
	for _, order := range orders {
		for bits := range 32 {
			x := abc(t, 9)
			for i, k := range order {
				if bits>>i&1 == 0 {
					x.says("P16.4", deliver(k), flights[k])
				} else {
					x.says("P16.5", drop(k), "done")
				}
			}
			x.says("P16.8: behind all", send(packet(0, 0, "new")), number(8))
		}
	}
}

// A number is never given out twice, though what had it has left, and though a Send or Copy was refused.
func TestP16_8Numbers(t *testing.T) {
	x := newPair(t, 2, 2)
	seen := map[int]bool{}
	note := func(k int) {
		if seen[k] {
			t.Fatalf("P16.8: the number %d is given out twice", k)
		}
		seen[k] = true
	}
	for k := 0; k < 60; k += 3 {
		x.says("P16.3", send(packet(0, 1, "a"), packet(0, 1, "b")), number(k))
		note(k)
		note(k + 1)
		x.stays("P16.3", send(packet(0, 1, "c")), api.ErrFlight)
		x.stays("P16.6", double(k), api.ErrFlight)
		x.stays("P16.3", send(packet(0, 2, "c")), api.ErrNode)
		x.do([]call{drop(k + 1), deliver(k + 1)}[k%2])
		x.says("P16.6", double(k), number(k+2))
		note(k + 2)
		x.all(drop(k+2), drop(k))
		if x.n.Len() != 0 || x.n.Next() != k+3 {
			t.Fatalf("P16.8: Len %d, Next %d", x.n.Len(), x.n.Next())
		}
	}
}

// Long trains: one goes in and one goes out, from either end, for long; from both ends of a long row; out of its midst.
func TestP16_8Trains(t *testing.T) {
	for _, long := range []int{1, 2, 3, 7, 30} {
		for _, at := range []func(i, low, high int) int{
			func(i, low, high int) int { return low },
			func(i, low, high int) int { return high },
			func(i, low, high int) int { return []int{low, high}[i%2] },
			func(i, low, high int) int { return (low + high) / 2 },
		} {
			x := newPair(t, 2, long)
			for i := range long {
				x.do(send(packet(i%2, 0, string(rune('a'+i)))))
			}
			for i := range 3 * long {
				fs := x.n.Flights()
				k := fs[at(i, 0, len(fs)-1)].Number
				x.all(deliver(k), send(packet(1, 1, "more")))
			}
			for i := range long {
				fs := x.n.Flights()
				x.do(drop(fs[at(i, 0, len(fs)-1)].Number))
			}
		}
	}
}
