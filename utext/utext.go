// Package utext: strict UTF-8 texts, seen as runes. Chapter 01.
package utext

import (
	"strings"
	"unicode/utf8"

	"redraft/api"
)

// stretch: the runes first to last.
type stretch struct {
	first, last rune
}

// barred: the runes that no text holds, but for those at the end of each plane of 2^16, which letIn tells by their bits.
var barred = [...]stretch{
	{0, 8},
	{0xb, 0x1f},
	{0x7f, 0x9f},
	{0xfdd0, 0xfdef},
	{0xfeff, 0xfeff},
}

// Check: the text's runes, or the byte of its first fault and ErrUtf8 or ErrRune.
func Check(s string) (runes int, at int, e api.Errno) {
	for i, r := range s {
		if broken(s, i, r) {
			return 0, i, api.ErrUtf8
		}
		if !letIn(r) {
			return 0, i, api.ErrRune
		}
		runes++
	}
	return runes, 0, api.OK
}

// broken asks the bytes themselves, because a range over a string hands out fffd for a byte at which no sequence begins and for a well-written fffd alike.
func broken(s string, at int, r rune) bool {
	return r == utf8.RuneError && !strings.HasPrefix(s[at:], "\ufffd")
}

func letIn(r rune) bool {
	for _, b := range barred {
		if b.first <= r && r <= b.last {
			return false
		}
	}
	return r&0xffff < 0xfffe
}

// Place: the byte at which rune number at begins (at = the number of runes: the length).
func Place(s string, at int) (int, api.Errno) {
	n, _, e := Check(s)
	if e != api.OK {
		return 0, e
	}
	if at < 0 || at > n {
		return 0, api.ErrPlace
	}
	return byteOf(s, at), api.OK
}

// byteOf is Place for a text and a place of it that have been checked already.
func byteOf(s string, at int) int {
	for i := range s {
		if at == 0 {
			return i
		}
		at--
	}
	return len(s)
}

// Index: the number of the rune that begins at that byte (the length: the number of runes).
func Index(s string, at int) (int, api.Errno) {
	n, _, e := Check(s)
	if e != api.OK {
		return 0, e
	}
	if at == len(s) {
		return n, api.OK
	}
	number := 0
	for i := range s {
		if i == at {
			return number, api.OK
		}
		number++
	}
	return 0, api.ErrPlace
}

// Slice: the runes lo to hi-1.
func Slice(s string, lo, hi int) (string, api.Errno) {
	n, _, e := Check(s)
	if e != api.OK {
		return "", e
	}
	if lo < 0 || lo > hi || hi > n {
		return "", api.ErrPlace
	}
	// A copy, so that what is handed out shares no memory with what was handed in.
	return strings.Clone(s[byteOf(s, lo):byteOf(s, hi)]), api.OK
}

// Splice: del runes from at on taken out, ins put in their place.
func Splice(s string, at, del int, ins string) (string, api.Errno) {
	n, _, e := Check(s)
	if e != api.OK {
		return "", e
	}
	if _, _, e := Check(ins); e != api.OK {
		return "", e
	}
	// del is held against what is left behind at, because at + del could wrap round.
	if at < 0 || at > n || del < 0 || del > n-at {
		return "", api.ErrPlace
	}
	// A builder and not +, which hands out its one part that isn't empty as it is: the answer would share s's or ins' memory.
	var b strings.Builder
	b.WriteString(s[:byteOf(s, at)])
	b.WriteString(ins)
	b.WriteString(s[byteOf(s, at+del):])
	return b.String(), api.OK
}

// Diff: the one splice that makes now of old: longest common head, then longest common tail.
func Diff(old, now string) (at, del int, ins string, e api.Errno) {
	if _, _, e := Check(old); e != api.OK {
		return 0, 0, "", e
	}
	if _, _, e := Check(now); e != api.OK {
		return 0, 0, "", e
	}
	a, b := []rune(old), []rune(now)
	at = commonHead(a, b)
	a, b = a[at:], b[at:]
	t := commonTail(a, b)
	return at, len(a) - t, string(b[:len(b)-t]), api.OK
}

func commonHead(a, b []rune) int {
	n := 0
	for n < len(a) && n < len(b) && a[n] == b[n] {
		n++
	}
	return n
}

func commonTail(a, b []rune) int {
	n := 0
	for n < len(a) && n < len(b) && a[len(a)-1-n] == b[len(b)-1-n] {
		n++
	}
	return n
}
