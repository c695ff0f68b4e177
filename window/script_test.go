package window_test

import (
	"math/rand"
	"testing"
)

// randomNumber: of a Put or a Drop, counted from Next on: mostly within the width, often at its ends.
func randomNumber(r *rand.Rand, size int) int {
	switch r.Intn(8) {
	case 0, 1:
		return 0
	case 2:
		return -1 - r.Intn(3)
	case 3:
		return size - 1
	case 4:
		return size + r.Intn(2)
	}
	return r.Intn(size)
}

// randomCall: any call; loops have bodies that make calls, and loops, of their own.
func randomCall(r *rand.Rand, size, deep int) call {
	letter := string(rune('a' + r.Intn(26)))
	switch k := r.Intn(20); {
	case k < 9:
		return put(randomNumber(r, size), letter)
	case k < 11:
		return drop(randomNumber(r, size))
	case k < 12:
		return exactly(far[r.Intn(len(far))], []string{"Put", "Drop"}[r.Intn(2)], letter)
	case k < 14:
		return peek()
	case k < 16:
		return pass()
	}
	var body []call
	if deep > 0 {
		for range r.Intn(4) {
			body = append(body, randomCall(r, size, deep-1))
		}
	}
	return loop(r.Intn(4), body...)
}

// Long scripts of all calls, beside the chapter's words.
func TestP13_1Scripts(t *testing.T) {
	r := rand.New(rand.NewSource(135))
	for range 3000 {
		size := 1 + r.Intn(7)
		x := newPair(t, r.Intn(5), size)
		for range 60 {
			x.do(randomCall(r, size, 2))
		}
	}
}

// Every script of four calls out of these, in a window of three places that holds one thing.
func TestP13_1AllShortScripts(t *testing.T) {
	calls := []call{
		put(0, "a"), put(1, "b"), put(2, "c"), put(3, "d"), put(-1, "e"),
		drop(0), drop(1), drop(2), pass(), peek(),
		loop(0), loop(1), loop(0, put(0, "f")), loop(0, pass()), loop(0, drop(0)), loop(0, loop(1)), loop(2, put(1, "g")),
	}
	n := len(calls)
	for i := range n * n * n * n {
		x := newPair(t, 0, 3)
		x.all(put(1, "x"), calls[i%n], calls[i/n%n], calls[i/n/n%n], calls[i/n/n/n])
	}
}
