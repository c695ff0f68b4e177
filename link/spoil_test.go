package link_test

import (
	"fmt"
	"testing"

	"redraft/api"
)

// Each byte of a packet turned by every mask; all others stay.
func TestP16_7EveryMask(t *testing.T) {
	const text = "\x00\x7f\x80\xffz"
	for at := range len(text) {
		for mask := range 256 {
			x := newPair(t, 2, 3)
			x.all(send(packet(0, 1, "ahead"), packet(1, 0, text), packet(0, 1, "behind")))
			if mask == 0 {
				x.stays("P16.7", spoil(1, at, 0), api.ErrPlace)
				x.says("P16.4", deliver(1), fmt.Sprintf("{1 1>0 %q false}", text))
				continue
			}
			x.says("P16.7", spoil(1, at, byte(mask)), "done")
			want := []byte(text)
			want[at] ^= byte(mask)
			x.says("P16.9", deliver(1), fmt.Sprintf("{1 1>0 %q true}", want))
		}
	}
}

// The first byte, the last one, one beyond, below 0, far beyond; of packets of several lengths, without bytes too; twice.
func TestP16_7Places(t *testing.T) {
	for _, text := range []string{"", "a", "ab", "some bytes"} {
		size := len(text)
		for _, at := range append([]int{-size - 1, -size, -2, -1, 0, 1, size - 2, size - 1, size, size + 1, 2 * size}, far...) {
			x := newPair(t, 1, 2)
			x.do(send(packet(0, 0, text), packet(0, 0, "a longer one than all")))
			if at < 0 || at >= size {
				x.stays("P16.7", spoil(0, at, 1), api.ErrPlace)
				x.stays("P16.7: both", spoil(0, at, 0), api.ErrPlace)
				continue
			}
			x.stays("P16.7", spoil(0, at, 0), api.ErrPlace)
			x.says("P16.7", spoil(0, at, 1), "done")
			for again := range size {
				x.stays("P16.7: again", spoil(0, again, 1), api.ErrSpoilt)
			}
		}
	}
}

// Two errors at once, and three: the packet comes first, then the place and the mask, then that it is spoilt.
func TestP16_7Several(t *testing.T) {
	x := newPair(t, 1, 3)
	x.all(send(packet(0, 0, "ab"), packet(0, 0, "cd")), spoil(0, 1, 1), spoil(1, 0, 1), drop(1))
	for _, k := range append([]int{1, 2, -1}, far...) {
		for _, at := range append([]int{0, 1, 2, -1}, far...) {
			x.stays("P16.7", spoil(k, at, 0), api.ErrPacket)
			x.stays("P16.7", spoil(k, at, 1), api.ErrPacket)
		}
	}
	for _, at := range append([]int{-1, 2, 3}, far...) {
		x.stays("P16.7: a place beside a spoilt packet's bytes", spoil(0, at, 1), api.ErrPlace)
		x.stays("P16.7: and no mask", spoil(0, at, 0), api.ErrPlace)
	}
	for at := range 2 {
		x.stays("P16.7: no mask for a spoilt packet", spoil(0, at, 0), api.ErrPlace)
		x.stays("P16.7: spoilt", spoil(0, at, 1), api.ErrSpoilt)
	}
	x.says("P16.7: what was refused has turned nothing", deliver(0), `{0 0>0 "ac" true}`)
}

// The same mask a second time, which would turn the byte back, is refused too.
func TestP16_7NotBack(t *testing.T) {
	for bit := range 8 {
		x := newPair(t, 1, 1)
		x.all(send(packet(0, 0, "q")), spoil(0, 0, 1<<bit))
		x.stays("P16.7", spoil(0, 0, 1<<bit), api.ErrSpoilt)
		x.says("P16.9", deliver(0), fmt.Sprintf("{0 0>0 %q true}", []byte{'q' ^ 1<<bit}))
	}
}

// A room that is full hinders no Spoil.
func TestP16_7Full(t *testing.T) {
	x := newPair(t, 1, 2)
	x.all(send(packet(0, 0, "q"), packet(0, 0, "r")))
	x.says("P16.7", spoil(1, 0, 3), "done")
	x.says("P16.7", spoil(0, 0, 3), "done")
}
