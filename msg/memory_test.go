package msg_test

import (
	"bytes"
	"math/rand"
	"slices"
	"strings"
	"testing"
	"unsafe"

	"redraft/api"
	"redraft/frame"
	"redraft/msg"
)

// roomy: b with spare room behind it, which holds known bytes.
func roomy(b []byte) []byte {
	out := append(bytes.Clone(b), bytes.Repeat([]byte{0xa5}, 40)...)
	return out[:len(b)]
}

// untouched: what roomy made of b is still so, spare room too.
func untouched(t *testing.T, in, b []byte, what string) {
	t.Helper()
	whole := in[:len(b)+40]
	if !bytes.Equal(whole[:len(b)], b) || !bytes.Equal(whole[len(b):], bytes.Repeat([]byte{0xa5}, 40)) {
		t.Fatalf("rule 11: %s has changed what it was handed: %x", what, whole)
	}
}

// stretch: where a list or text lies in memory.
type stretch struct{ lo, hi uintptr }

func ofBytes(b []byte) stretch {
	lo := uintptr(unsafe.Pointer(unsafe.SliceData(b)))
	return stretch{lo, lo + uintptr(cap(b))}
}

func ofRanges(l []api.Range) stretch {
	lo := uintptr(unsafe.Pointer(unsafe.SliceData(l)))
	return stretch{lo, lo + uintptr(cap(l))*unsafe.Sizeof(api.Range{})}
}

func ofText(s string) stretch {
	lo := uintptr(unsafe.Pointer(unsafe.StringData(s)))
	return stretch{lo, lo + uintptr(len(s))}
}

// apart: no two of them have a byte of memory in common.
func apart(t *testing.T, what string, list ...stretch) {
	t.Helper()
	for i, a := range list {
		for _, b := range list[:i] {
			if a.lo < a.hi && b.lo < b.hi && a.lo < b.hi && b.lo < a.hi {
				t.Fatalf("rule 11: %s: two lists share memory", what)
			}
		}
	}
}

// overwrite: all of a list's memory, spare room too, and what an append writes.
func overwrite(b []byte) {
	whole := b[:cap(b)]
	for i := range whole {
		whole[i] ^= 0xff
	}
	_ = append(b, 1, 2, 3)
}

func overwriteRanges(l []api.Range) {
	whole := l[:cap(l)]
	for i := range whole {
		whole[i] = api.Range{Lo: -1, Hi: -2}
	}
	_ = append(l, api.Range{Lo: -3, Hi: -4})
}

// ownOp: o in memory of its own, its ranges with spare room.
func ownOp(o api.Op) api.Op {
	o.Text = strings.Clone(o.Text)
	if len(o.Ranges) > 0 {
		o.Ranges = append(slices.Clone(o.Ranges), list(7, 8, 9, 10)...)[:len(o.Ranges)]
	}
	return o
}

// unchanged: what ownOp made of o is still so, spare room too.
func unchanged(t *testing.T, in, o api.Op, what string) {
	t.Helper()
	if !sameOp(in, o) || len(o.Ranges) > 0 && !slices.Equal(in.Ranges[len(o.Ranges):len(o.Ranges)+2], list(7, 8, 9, 10)) {
		t.Fatalf("rule 11: %s has changed what it was handed: %.200v", what, in)
	}
}

// Texts of one byte are left out: the language itself keeps one of each.
func longTexts(o api.Op) bool { return o.Kind != api.Ins || len(o.Text) > 1 }

func memoryOps() []api.Op {
	r := rand.New(rand.NewSource(19))
	out := append(rightOps(), greatOps()[:2]...)
	for range 300 {
		out = append(out, randomOp(r))
	}
	return slices.DeleteFunc(out, func(o api.Op) bool { return !longTexts(o) })
}

func TestMemoryEncodeOp(t *testing.T) {
	for _, o := range memoryOps() {
		in := ownOp(o)
		a, _ := msg.EncodeOp(in)
		b, _ := msg.EncodeOp(in)
		unchanged(t, in, o, "EncodeOp")
		apart(t, "EncodeOp", ofBytes(a), ofBytes(b), ofRanges(in.Ranges), ofText(in.Text))
		overwrite(a)
		overwriteRanges(in.Ranges)
		if !bytes.Equal(b, plainOp(o)) {
			t.Fatalf("rule 11: bytes have changed behind others: %s", short(b))
		}
	}
}

func TestMemoryDecodeOp(t *testing.T) {
	for _, o := range memoryOps() {
		whole := plainOp(o)
		in := roomy(whole)
		a, _, _ := msg.DecodeOp(in)
		b, _, _ := msg.DecodeOp(in)
		untouched(t, in, whole, "DecodeOp")
		apart(t, "DecodeOp", ofBytes(in), ofRanges(a.Ranges), ofRanges(b.Ranges), ofText(a.Text), ofText(b.Text))
		overwrite(in)
		overwriteRanges(a.Ranges)
		if !sameOp(b, o) {
			t.Fatalf("rule 11: a command has changed behind another's: %.200v", b)
		}
	}
}

// memoryMsgs: each command in both codes that carry one.
func memoryMsgs() []api.Msg {
	out := []api.Msg{hello(1, 0), hello(8, 8192), ack(1, 1, 1), ack(8, 8192, 1024)}
	for _, o := range memoryOps() {
		out = append(out, submit(o.ID[0], 0, o), cast(1, 8192, o))
	}
	return out
}

func TestMemoryEncode(t *testing.T) {
	for _, m := range memoryMsgs() {
		in := withMsg(m, func(m *api.Msg) { m.Op = ownOp(m.Op) })
		from, to := route(m)
		a, _ := msg.Encode(in)
		b, _ := msg.Encode(in)
		p, _ := msg.Seal(from, to, in)
		q, _ := msg.Seal(from, to, in)
		unchanged(t, in.Op, m.Op, "Encode or Seal")
		apart(t, "Encode and Seal", ofBytes(a), ofBytes(b), ofBytes(p.Bytes), ofBytes(q.Bytes), ofRanges(in.Op.Ranges), ofText(in.Op.Text))
		overwrite(a)
		overwrite(p.Bytes)
		overwriteRanges(in.Op.Ranges)
		want, _ := frame.Wrap(plainMsg(m))
		if !bytes.Equal(b, plainMsg(m)) || !bytes.Equal(q.Bytes, want) {
			t.Fatalf("rule 11: bytes have changed behind others: %s, %s", short(b), short(q.Bytes))
		}
	}
}

func TestMemoryDecode(t *testing.T) {
	for _, m := range memoryMsgs() {
		payload := plainMsg(m)
		whole, _ := frame.Wrap(payload)
		in, sealed := roomy(payload), roomy(whole)
		a, _, _ := msg.Decode(in)
		b, _, _ := msg.Decode(in)
		c, _ := msg.Unseal(sealed)
		d, _ := msg.Unseal(sealed)
		untouched(t, in, payload, "Decode")
		untouched(t, sealed, whole, "Unseal")
		apart(t, "Decode and Unseal", ofBytes(in), ofBytes(sealed), ofRanges(a.Op.Ranges), ofRanges(b.Op.Ranges), ofRanges(c.Op.Ranges), ofRanges(d.Op.Ranges), ofText(a.Op.Text), ofText(b.Op.Text), ofText(c.Op.Text), ofText(d.Op.Text))
		overwrite(in)
		overwrite(sealed)
		overwriteRanges(a.Op.Ranges)
		overwriteRanges(c.Op.Ranges)
		if !sameMsg(b, m) || !sameMsg(d, m) {
			t.Fatalf("rule 11: a message has changed behind another's: %.200v, %.200v", b, d)
		}
	}
}

// What is refused is not changed either.
func TestMemoryRefused(t *testing.T) {
	r := rand.New(rand.NewSource(20))
	for range 3000 {
		b := spoil(r, plainMsg(randomMsg(r)))
		in := roomy(b)
		msg.Decode(in)
		msg.DecodeOp(in)
		msg.Unseal(in)
		untouched(t, in, b, "Decode, DecodeOp or Unseal")
	}
	for _, o := range wrongOps() {
		in := ownOp(o)
		msg.EncodeOp(in)
		msg.Encode(cast(1, 1, in))
		msg.Seal(0, 1, cast(1, 1, in))
		unchanged(t, in, o, "EncodeOp, Encode or Seal")
	}
}

// Rule 14: what is answered hangs on nothing that was asked before, and calls at once do not see one another.
func TestMemoryAtOnce(t *testing.T) {
	done := make(chan string)
	for k := range 8 {
		go func() {
			r := rand.New(rand.NewSource(int64(k)))
			for range 2000 {
				m := randomMsg(r)
				b := plainMsg(m)
				bad := spoil(r, b)
				_, at, e := msg.Decode(bad)
				if _, want, f := wantDecode(bad); at != want || e != f {
					done <- "Decode of " + short(bad)
					return
				}
				if got, _, e := msg.Decode(b); !sameMsg(got, m) || e != api.OK {
					done <- "Decode of " + short(b)
					return
				}
			}
			done <- ""
		}()
	}
	for range 8 {
		if wrong := <-done; wrong != "" {
			t.Errorf("rule 14: %s", wrong)
		}
	}
}
