package journal_test

import (
	"math/rand"
	"strings"
	"testing"

	"redraft/api"
)

// lengthOf: how many bytes the file has now.
func (x *pair) lengthOf() int {
	for _, f := range x.d.Files() {
		if f.Name == log {
			return len(f.Bytes)
		}
	}
	return 0
}

// number: mostly one from 0 to n, now and then one beside it.
func number(r *rand.Rand, n int) int {
	switch r.Intn(14) {
	case 0:
		return far[r.Intn(len(far))]
	case 1:
		return -1
	case 2:
		return n + 1
	}
	return r.Intn(n + 1)
}

// randomStep: any call, of any journal; mostly the latest one.
func randomStep(r *rand.Rand, x *pair) step {
	if x.d.Down() && r.Intn(3) > 0 {
		return up()
	}
	if len(x.js) == 0 {
		return opened()
	}
	i := len(x.js) - 1
	if r.Intn(5) == 0 {
		i = r.Intn(len(x.js))
	}
	n := x.js[i].Len()
	switch r.Intn(30) {
	case 0, 1, 2, 3, 4, 5, 6, 7, 8:
		return appended(i, strings.Repeat("r", r.Intn(12)))
	case 9:
		return appended(i, strings.Repeat("b", greatest+r.Intn(2)))
	case 10, 11, 12, 13:
		return synced(i)
	case 14, 15, 16:
		return records(i, number(r, n), number(r, n))
	case 17:
		return records(i, 0, n)
	case 18, 19:
		return opened()
	case 20:
		return openedAs([]string{"LOG", "other", log}[r.Intn(3)])
	case 21, 22, 23:
		return arm(r.Intn(4), r.Intn(50))
	case 24:
		return crash(r.Intn(50))
	}
	return randomMeddling(r, x)
}

// randomMeddling: what others do to the file.
func randomMeddling(r *rand.Rand, x *pair) step {
	size := x.lengthOf()
	switch r.Intn(9) {
	case 0:
		return fileCut(r.Intn(size + 1))
	case 1:
		return fileCut(max(0, size-r.Intn(20)))
	case 2:
		return fileTurn(r.Intn(size+1), 1<<r.Intn(8))
	case 3:
		return fileRemove()
	case 4:
		return fileSync()
	case 5:
		return fileAppend(framed(r.Intn(4), "other"))
	case 6:
		return fileAppend(frameOf(make([]byte, r.Intn(5))))
	case 7:
		return fileAppend(make([]byte, r.Intn(3)))
	}
	return up()
}

// Long scripts of all calls, beside the chapter's words.
func TestP12_1Scripts(t *testing.T) {
	r := rand.New(rand.NewSource(52))
	seen := map[trouble]int{}
	for range 2500 {
		limit := 20 + r.Intn(300)
		if r.Intn(20) == 0 {
			limit = wide
		}
		x := newPair(t, limit)
		for range 50 {
			got := x.do(randomStep(r, x)).trouble
			seen[trouble{call: got.call, e: got.e}]++
		}
	}
	for call, list := range map[string][]api.Errno{
		"Open":    {api.ErrName, api.ErrDown},
		"Append":  {api.ErrBig, api.ErrDown, api.ErrFull, api.ErrFile, api.ErrClosed},
		"Sync":    {api.ErrDown, api.ErrFile, api.ErrClosed},
		"Records": {api.ErrPlace, api.ErrMark, api.ErrSum, api.ErrDown, api.ErrFile},
	} {
		for _, e := range list {
			if seen[trouble{call: call, e: e}] < 10 {
				t.Errorf("only %d of %s's error %d", seen[trouble{call: call, e: e}], call, e)
			}
		}
	}
}

// Every script of four calls out of these, behind a journal with one durable and one loose record, on a disk with little room.
func TestP12_1AllShortScripts(t *testing.T) {
	calls := []step{appended(0, ""), appended(0, "more than fits"), synced(0), records(0, 0, 2), opened(), fileAppend([]byte{9}), fileCut(17), fileCut(30), fileSync(), fileTurn(20, 4), arm(1, 0), arm(2, 13), crash(7), crash(40), up()}
	n := len(calls)
	for i := range n * n * n * n {
		x := newPair(t, 60)
		x.all(opened(), appended(0, "a"), synced(0), appended(0, "b"), calls[i%n], calls[i/n%n], calls[i/n/n%n], calls[i/n/n/n])
	}
}
