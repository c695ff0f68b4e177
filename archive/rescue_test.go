package archive_test

import (
	"bytes"
	"fmt"
	"math/rand"
	"slices"
	"testing"

	"redraft/api"
	"redraft/archive"
)

// piece: bytes in a wreck, and whether they are taken.
type piece struct {
	b     []byte
	taken bool
}

func yes(b []byte) piece { return piece{b, true} }

func no(b []byte) piece { return piece{b, false} }

// holdsRescue: of these pieces those that are taken are, and they make the archive of these commands.
func holdsRescue(t *testing.T, what string, pieces []piece, ops ...api.Op) {
	t.Helper()
	var b []byte
	lost, kept := 0, 0
	for _, x := range pieces {
		b = append(b, x.b...)
		if x.taken {
			kept += len(x.b)
		} else {
			lost += len(x.b)
		}
	}
	in := own(b)
	saved, n, e := archive.Rescue(in)
	if kept == 0 {
		if len(saved) != 0 || n != 0 || e != api.ErrFormat {
			t.Errorf("P22.10: %s: %x, %d, %d, want ErrFormat", what, saved, n, e)
		}
	} else if want := archiveOf(ops...); !bytes.Equal(saved, want) || n != lost || e != api.OK {
		t.Errorf("P22.10: %s: %x, %d lost, %d, want %x, %d lost", what, saved, n, e, want, lost)
	}
	untouched(t, in, b, "Rescue")
	holdsOne(t, b)
}

func TestRescueNothing(t *testing.T) {
	holdsRescue(t, "nothing", nil)
	for _, b := range [][]byte{{0}, {0xc7}, {0xc7, 0x9d}, []byte("redraft\x01\x01"), bytes.Repeat([]byte{0xc7, 0x9d}, 50), framed(), framed([]byte{0}), framed([]byte("redraft\x01")), framed([]byte("redraft\x01\x01\x00")), framed([]byte("redraft\x02\x01")), framed([]byte("Redraft\x01\x01")), deltaHead(0, plainSum(nil)), unguarded(api.MaxPayload), unguarded(1 << 20)} {
		holdsRescue(t, "no frame of an archive", []piece{no(b)})
		holdsRescue(t, "no frame of an archive, twice", []piece{no(b), no(b)})
		if len(b) < 12 || b[2] == 0 && b[3] == 0 { // what tells of more bytes than are there is waited for by none
			holdsRescue(t, "and then an archive", []piece{no(b), yes(archiveOf(readA))}, readA)
		}
	}
}

func TestRescueHeads(t *testing.T) {
	head, a, foot := headFrame(), commandFrame(0, readA), footFrame(readA)
	holdsRescue(t, "the head alone", []piece{yes(head)})
	holdsRescue(t, "two heads", []piece{yes(head), no(head), yes(a), no(head), yes(foot), no(head)}, readA)
	holdsRescue(t, "no head", []piece{yes(a), yes(foot)}, readA)
	holdsRescue(t, "a head behind a command", []piece{yes(a), no(head), yes(foot)}, readA)
	holdsRescue(t, "a head behind a command that is not the next one", []piece{no(commandFrame(1, readA)), yes(head), yes(a)}, readA)
	holdsRescue(t, "a delta's head", []piece{no(deltaHead(0, plainSum(nil))), yes(a), yes(foot)}, readA)
	holdsRescue(t, "a delta", []piece{no(deltaHead(1, plainSum(plainOp(readA)))), no(commandFrame(1, readB)), no(footFrame(readB))})
	holdsRescue(t, "a delta behind its base, foot left out", []piece{yes(head), yes(a), no(deltaHead(1, plainSum(plainOp(readA)))), yes(commandFrame(1, readB)), no(footFrame(readB))}, readA, readB)
	holdsRescue(t, "another version", []piece{no(framed([]byte("redraft\x02\x01"))), yes(a), yes(foot)}, readA)
}

func TestRescueFeet(t *testing.T) {
	head, a, b, foot := headFrame(), commandFrame(0, readA), commandFrame(1, readB), footFrame(readA)
	holdsRescue(t, "a foot of nothing", []piece{yes(footFrame())})
	holdsRescue(t, "a foot of nothing first", []piece{yes(footFrame()), no(head), no(a), no(foot)})
	holdsRescue(t, "a foot behind the head", []piece{yes(head), yes(footFrame()), no(a), no(foot)})
	holdsRescue(t, "a foot of nothing too late", []piece{yes(head), yes(a), no(footFrame()), yes(foot)}, readA)
	holdsRescue(t, "a foot too early", []piece{yes(head), no(foot), yes(a), yes(foot)}, readA)
	holdsRescue(t, "a foot of fewer", []piece{yes(head), yes(a), yes(b), no(foot), yes(footFrame(readA, readB))}, readA, readB)
	holdsRescue(t, "a foot twice", []piece{yes(head), yes(a), yes(foot), no(foot)}, readA)
	holdsRescue(t, "the next command behind a foot", []piece{yes(head), yes(a), yes(foot), no(b), no(footFrame(readA, readB))}, readA)
	holdsRescue(t, "a second archive", []piece{yes(archiveOf(readA)), no(archiveOf(readA, readB))}, readA)
	holdsRescue(t, "a second archive behind an empty one", []piece{yes(archiveOf()), no(archiveOf(readA, readB))})
	holdsRescue(t, "a second archive behind one without a foot", []piece{yes(head), yes(a), no(head), no(a), yes(b), yes(footFrame(readA, readB))}, readA, readB)
	for _, w := range wrongFeet(1, readA) {
		holdsRescue(t, w.what, []piece{yes(head), yes(a), no(w.b), yes(foot)}, readA)
	}
}

// A head that says something else, a command or a foot with a fault: none is taken; what comes behind is.
func TestRescueWrongFrames(t *testing.T) {
	head, a, b, foot := headFrame(), commandFrame(0, readA), commandFrame(1, readB), footFrame(readA, readB)
	for _, w := range wrongHeads(1) {
		x := []piece{no(w.b), yes(a), yes(b), yes(foot)}
		if w.what == "one byte between" {
			x = []piece{no([]byte{0}), yes(head), yes(a), yes(b), yes(foot)}
		}
		holdsRescue(t, w.what, x, readA, readB)
	}
	for _, w := range wrongCommands(1, readB) {
		if w.what != "one byte between" {
			holdsRescue(t, w.what, []piece{yes(head), yes(a), no(w.b), yes(b), no(w.b), yes(foot), no(w.b)}, readA, readB)
			holdsRescue(t, w.what+", and nothing else", []piece{yes(head), yes(a), no(w.b), no(foot)}, readA)
		}
	}
}

func TestRescueRefused(t *testing.T) {
	for _, c := range refusedOps() {
		fine, last := c.ops[:len(c.ops)-1], c.ops[len(c.ops)-1]
		var x []piece
		for _, part := range frames(fine...)[:len(c.ops)] {
			x = append(x, yes(part))
		}
		k := len(fine)
		x = append(x, no(commandFrame(k, last)))
		holdsRescue(t, fmt.Sprintf("a refused %v", last), x, fine...)
		holdsRescue(t, fmt.Sprintf("a refused %v and its foot", last), append(slices.Clip(x), no(footFrame(c.ops...))), fine...)
		holdsRescue(t, fmt.Sprintf("a refused %v and another foot", last), append(slices.Clip(x), yes(footFrame(fine...))), fine...)
		next := ins(7, 1, 0, "next")
		holdsRescue(t, fmt.Sprintf("a refused %v and one that fits", last), append(slices.Clip(x), no(commandFrame(k+1, next)), yes(commandFrame(k, next)), no(commandFrame(k, next))), append(slices.Clone(fine), next)...)
	}
}

// All orders of a few frames, some of them doubled.
func TestRescueOrders(t *testing.T) {
	list := append(frames(readA, readB, hide(1, 2, 0, 2)), commandFrame(0, readB))
	var walk func(b []byte, used int)
	walk = func(b []byte, used int) {
		holdsOne(t, b)
		for i, x := range list {
			if used&(1<<i) == 0 {
				walk(join(b, x), used|1<<i)
			}
		}
	}
	walk(nil, 0)
	for i := range list {
		for k := range list {
			holdsOne(t, join(list[0], list[i], list[1], list[k], list[2], list[k], list[3], list[i], list[4]))
		}
	}
}

// Junk between the frames, of bytes that begin no frame, or that seem to.
func TestRescueJunk(t *testing.T) {
	r := rand.New(rand.NewSource(1))
	ops := everyKind()
	for range 400 {
		var x []piece
		for _, part := range frames(ops...) {
			junk := make([]byte, r.Intn(30))
			for i := range junk {
				junk[i] = []byte{0, 0xc7, 0x9d, 'c', 'e', byte(r.Intn(256))}[r.Intn(6)]
			}
			// A length that is guarded by itself would swallow what comes behind.
			x = append(x, no(junk), yes(part))
		}
		holdsRescue(t, "junk between", x, ops...)
	}
}

// A frame within a frame: of one that is whole the payload is not looked into; of one that is spoilt it is.
func TestRescueWithin(t *testing.T) {
	head, a, foot := headFrame(), commandFrame(0, readA), footFrame(readA)
	inner := join(head, a, foot)
	holdsRescue(t, "within a whole frame", []piece{no(framed(inner)), yes(head)})
	holdsRescue(t, "within a command's payload", []piece{yes(head), no(framed([]byte("c"), four(0), inner)), yes(a), yes(foot)}, readA)
	outer := framed([]byte("xyz"), inner, []byte("xyz"))
	for _, spoilt := range [][]byte{turned(outer, 0, 1), turned(outer, 4, 2), turned(outer, 10, 4), turned(outer, 14, 8), turned(outer, len(outer)-1, 1)} {
		holdsRescue(t, "within a spoilt frame", []piece{no(spoilt[:15]), yes(spoilt[15 : 15+len(inner)]), no(spoilt[15+len(inner):]), no(head)}, readA)
	}
	holdsRescue(t, "within a frame that is cut", []piece{no(outer[:15]), yes(outer[15 : 15+len(inner)]), no([]byte{'x'})}, readA)
	long := unguarded(200)
	holdsRescue(t, "behind a length that reaches too far", []piece{yes(head), no(long), yes(a), yes(foot)}, readA)
	short := join(unguarded(30)[:8], make([]byte, 4))
	holdsRescue(t, "behind a length that reaches into the next", []piece{yes(head), no(short), yes(a), no(short), yes(foot)}, readA)
}
