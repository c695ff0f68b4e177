package link_test

import (
	"testing"

	"redraft/api"
)

// A copy has what the packet has now, under a number of its own, behind all others.
func TestP16_6Copy(t *testing.T) {
	x := newPair(t, 3, 20)
	x.all(send(packet(2, 1, "word"), packet(0, 2, "")))
	x.says("P16.6", double(0), number(2))
	x.says("P16.6: of a packet without bytes", double(1), number(3))
	x.says("P16.6: of a copy", double(2), number(4))
	x.says("P16.6: of a copy's copy", double(4), number(5))
	x.all(drop(0), drop(2))
	x.says("P16.6: the packet itself has left", double(5), number(6))
	for _, k := range []int{4, 5, 6} {
		want := []string{`{4 2>1 "word" false}`, `{5 2>1 "word" false}`, `{6 2>1 "word" false}`}[k-4]
		x.says("P16.9", deliver(k), want)
	}
	x.says("P16.9", deliver(3), `{3 0>2 "" false}`)
	x.says("P16.9", deliver(1), `{1 0>2 "" false}`)
}

// A copy of a spoilt packet is spoilt, and so is its copy; one that was made ahead isn't, and may be spoilt by itself.
func TestP16_6And7SpoiltCopies(t *testing.T) {
	x := newPair(t, 2, 20)
	x.all(send(packet(1, 0, "abc")), double(0), spoil(0, 1, 1), double(0), double(2))
	if got, want := told(x.n), `[{0 1>0 "acc" true} {1 1>0 "abc" false} {2 1>0 "acc" true} {3 1>0 "acc" true}] 4 4`; got != want {
		t.Fatalf("P16.7: %s, want %s", got, want)
	}
	for _, k := range []int{0, 2, 3} {
		x.stays("P16.7: spoilt with the one that it is of", spoil(k, 0, 1), api.ErrSpoilt)
	}
	x.says("P16.7: the earlier copy", spoil(1, 2, 2), "done")
	x.stays("P16.7: the earlier copy, again", spoil(1, 2, 2), api.ErrSpoilt)
	x.says("P16.6", double(1), number(4))
	if got, want := told(x.n), `[{0 1>0 "acc" true} {1 1>0 "aba" true} {2 1>0 "acc" true} {3 1>0 "acc" true} {4 1>0 "aba" true}] 5 5`; got != want {
		t.Fatalf("P16.7: %s, want %s", got, want)
	}
}

// A Spoil of the copy leaves the packet that it is of as it was.
func TestP16_7CopyApart(t *testing.T) {
	x := newPair(t, 2, 9)
	x.all(send(packet(1, 0, "abc")), double(0), double(1), spoil(1, 0, 0xff))
	x.says("P16.9", deliver(0), `{0 1>0 "abc" false}`)
	x.says("P16.9", deliver(1), `{1 1>0 "\x9ebc" true}`)
	x.says("P16.9", deliver(2), `{2 1>0 "abc" false}`)
}

// No room for one more: of a number that is in flight ErrFlight, of one that isn't ErrPacket.
func TestP16_6Room(t *testing.T) {
	for most := 1; most < 6; most++ {
		x := newPair(t, 2, most)
		x.do(send(packet(0, 1, "a")))
		for k := 1; k < most; k++ {
			x.says("P16.6", double(k-1), number(k))
		}
		for k := range most {
			x.stays("P16.6: no room", double(k), api.ErrFlight)
		}
		for _, k := range append([]int{-1, most, most + 1}, far...) {
			x.stays("P16.6: both at once", double(k), api.ErrPacket)
		}
		x.do(drop(most / 2))
		x.stays("P16.6: it has left", double(most/2), api.ErrPacket)
		if most > 1 {
			x.says("P16.6: room for just one", double((most/2+1)%most), number(most))
			x.stays("P16.6: no room", double(most), api.ErrFlight)
			x.stays("P16.6: both at once", double(most/2), api.ErrPacket)
		}
	}
}
