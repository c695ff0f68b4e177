package msg_test

import (
	"bytes"
	"math/rand"
	"testing"

	"redraft/api"
	"redraft/msg"
)

// cuts: where bytes are cut: everywhere, or, of very many, near both ends and here and there.
func cuts(r *rand.Rand, n int) []int {
	var out []int
	for k := range n {
		if n < 1500 || k < 40 || k > n-40 || r.Intn(n/40) == 0 {
			out = append(out, k)
		}
	}
	return out
}

// holdsM8: every shorter beginning is cut, and any byte behind is one too many.
func holdsM8(t *testing.T, b []byte, ask func(b []byte) (int, api.Errno)) {
	t.Helper()
	if at, e := ask(b); at != 0 || e != api.OK {
		t.Fatalf("M7: %s: %d, %d", short(b), at, e)
	}
	for _, k := range cuts(rand.New(rand.NewSource(15)), len(b)) {
		if at, e := ask(b[:k]); at != k || e != api.ErrCut {
			t.Fatalf("M8: the first %d bytes of %s: %d, %d, want %d, ErrCut", k, short(b), at, e, k)
		}
	}
	step := 1 + len(b)/200
	for x := 0; x < 256; x += step {
		for _, more := range [][]byte{{byte(x)}, {byte(x), 0}, {byte(x), 0xff, 0xff, 0xff, 0xff}} {
			if at, e := ask(join(b, more)); at != len(b) || e != api.ErrRest {
				t.Fatalf("M8: %s and %x behind: %d, %d, want %d, ErrRest", short(b), more, at, e, len(b))
			}
		}
	}
}

func TestM8Commands(t *testing.T) {
	for _, o := range append(rightOps(), greatOps()...) {
		b, e := msg.EncodeOp(o)
		if e != api.OK {
			t.Fatalf("M1: EncodeOp(%.99v) = %d", o, e)
		}
		holdsM8(t, b, askOp)
	}
	r := rand.New(rand.NewSource(16))
	for range 500 {
		holdsM8(t, plainOp(randomOp(r)), askOp)
	}
}

func TestM8Messages(t *testing.T) {
	all := append(rightMsgs(), someMsgs()...)
	for _, o := range greatOps()[:2] {
		all = append(all, submit(o.ID[0], 8192, o), cast(8, 1, o))
	}
	r := rand.New(rand.NewSource(17))
	for range 500 {
		all = append(all, randomMsg(r))
	}
	for _, m := range all {
		b, e := msg.Encode(m)
		if e != api.OK {
			t.Fatalf("M3: Encode(%.99v) = %d", m, e)
		}
		holdsM8(t, b, askMsg)
	}
}

// M7, one form: of all bytes that are few, no two are one command or one message.
func TestM7OneForm(t *testing.T) {
	lines := map[string][]byte{}
	r := rand.New(rand.NewSource(18))
	for range 40000 {
		b := spoil(r, plainOp([]api.Op{ins(1, 1, 0, "x"), hide(1, 1, 0, 1), hide(1, 1, 1, 2, 3, 4), status(1, 1, 1, 2, true)}[r.Intn(4)]))
		o, _, e := msg.DecodeOp(b)
		if e != api.OK {
			continue
		}
		key := string(plainOp(o))
		if other, ok := lines[key]; ok && !bytes.Equal(other, b) {
			t.Fatalf("M7: %x and %x are both %v", b, other, o)
		}
		lines[key] = b
	}
	if len(lines) < 100 {
		t.Fatalf("only %d commands were met", len(lines))
	}
}

// A message is never too long for a frame, and what travels is never more than its fields need.
func TestM5NeverTooLong(t *testing.T) {
	longest := 0
	for _, o := range greatOps() {
		b, e := msg.Encode(cast(8, 8192, o))
		if e != api.OK {
			t.Fatalf("M3: Encode = %d", e)
		}
		longest = max(longest, len(b))
	}
	if longest < 65536+7740 || longest > api.MaxPayload {
		t.Errorf("M5: the longest message has %d bytes", longest)
	}
}
