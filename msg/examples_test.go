package msg_test

import (
	"bytes"
	"testing"

	"redraft/api"
	"redraft/msg"
)

// The chapter's tables of examples, row by row.

func TestExamplesCommands(t *testing.T) {
	for _, c := range []struct {
		o    api.Op
		want string
	}{
		{ins(3, 17, 12, "a\u00e9"), "01 03 11 0c 03 61 c3 a9"},
		{hide(1, 300, 2, 5, 9, 10), "02 01 ac 02 02 02 03 04 01"},
		{status(2, 8, 3, 17, false), "04 02 08 03 11 00"},
	} {
		b := unhex(t, c.want)
		if got, e := msg.EncodeOp(c.o); !bytes.Equal(got, b) || e != api.OK {
			t.Errorf("M1: EncodeOp(%v) = % x, %d, want %s", c.o, got, e, c.want)
		}
		if got, at, e := msg.DecodeOp(b); !sameOp(got, c.o) || at != 0 || e != api.OK {
			t.Errorf("M2: DecodeOp(%s) = %v, %d, %d, want %v", c.want, got, at, e, c.o)
		}
	}
}

func TestExamplesMessages(t *testing.T) {
	for _, c := range []struct {
		m    api.Msg
		want string
	}{
		{hello(5, 130), "01 05 82 01"},
		{submit(2, 0, status(2, 8, 3, 17, false)), "02 02 00 04 02 08 03 11 00"},
		{ack(1, 8192, 1024), "03 01 80 40 80 08"},
		{cast(2, 1, ins(1, 1, 0, "x")), "04 02 01 01 01 01 00 01 78"},
	} {
		b := unhex(t, c.want)
		if got, e := msg.Encode(c.m); !bytes.Equal(got, b) || e != api.OK {
			t.Errorf("M3: Encode(%v) = % x, %d, want %s", c.m, got, e, c.want)
		}
		if got, at, e := msg.Decode(b); !sameMsg(got, c.m) || at != 0 || e != api.OK {
			t.Errorf("M4: Decode(%s) = %v, %d, %d, want %v", c.want, got, at, e, c.m)
		}
	}
}

func TestExamplesDecodeOp(t *testing.T) {
	for _, c := range []struct {
		b  string
		at int
		e  api.Errno
	}{
		{"", 0, api.ErrCut},
		{"03 01 01", 0, api.ErrKind},
		{"01 09 01", 1, api.ErrID},
		{"01 03 91 00 0c", 2, api.ErrNumber},
		{"01 03 81", 3, api.ErrCut},
		{"01 03 ff ff ff 80 01", 2, api.ErrNumber},
		{"01 03 ff ff ff", 5, api.ErrCut},
		{"01 03 11 0c 00", 4, api.ErrEmpty},
		{"01 03 11 0c 03 61 c3", 7, api.ErrCut},
		{"01 03 11 0c 02 61 c3", 6, api.ErrUtf8},
		{"01 03 11 0c 01 61 00", 6, api.ErrRest},
		{"01 01 01 80 80 40 01 61", 7, api.ErrGrow},
		{"02 01 01 02 02 03 00 01", 6, api.ErrOrder},
		{"02 01 01 01 02 00", 5, api.ErrRange},
		{"04 02 08 02 08 00", 4, api.ErrTarget},
		{"04 02 08 03 11 02", 5, api.ErrField},
	} {
		if o, at, e := msg.DecodeOp(unhex(t, c.b)); !sameOp(o, api.Op{}) || at != c.at || e != c.e {
			t.Errorf("M2: DecodeOp(%s) = %v, %d, %d, want %d, %d", c.b, o, at, e, c.at, c.e)
		}
	}
}

func TestExamplesDecode(t *testing.T) {
	for _, c := range []struct {
		b  string
		at int
		e  api.Errno
	}{
		{"02 02 00 04 03 08 03 11 00", 3, api.ErrField},
		{"03 01 00 01", 2, api.ErrField},
		{"05", 0, api.ErrCode},
	} {
		if m, at, e := msg.Decode(unhex(t, c.b)); !sameMsg(m, api.Msg{}) || at != c.at || e != c.e {
			t.Errorf("M4: Decode(%s) = %v, %d, %d, want %d, %d", c.b, m, at, e, c.at, c.e)
		}
	}
}

func TestExamplesRefused(t *testing.T) {
	for _, c := range []struct {
		o api.Op
		e api.Errno
	}{
		{show(1, 1, 0, 1), api.ErrKind},
		{ins(0, 0, 0, "x"), api.ErrID},
		{show(9, 1, 0, 1), api.ErrID},
	} {
		if b, e := msg.EncodeOp(c.o); len(b) != 0 || e != c.e {
			t.Errorf("M1: EncodeOp(%v) = % x, %d, want %d", c.o, b, e, c.e)
		}
	}
	for _, c := range []struct {
		m api.Msg
		e api.Errno
	}{
		{withMsg(hello(1, 0), func(m *api.Msg) { m.Seq = 1 }), api.ErrExtra},
		{ack(1, 0, 0), api.ErrField},
	} {
		if b, e := msg.Encode(c.m); len(b) != 0 || e != c.e {
			t.Errorf("M3: Encode(%v) = % x, %d, want %d", c.m, b, e, c.e)
		}
	}
	if p, e := msg.Seal(1, 0, ack(1, 1, 1)); p.From != 0 || p.To != 0 || len(p.Bytes) != 0 || e != api.ErrField {
		t.Errorf("M5: Seal(1, 0, an Ack) = %v, %d, want ErrField", p, e)
	}
}

// 'Numbers': the chapter's four, as the place of an insert.
func TestExamplesNumbers(t *testing.T) {
	for _, c := range []struct {
		n    int
		want string
	}{{0, "00"}, {127, "7f"}, {128, "80 01"}, {300, "ac 02"}} {
		b := join(unhex(t, "01 01 01"), unhex(t, c.want), unhex(t, "01 61"))
		if got, e := msg.EncodeOp(ins(1, 1, c.n, "a")); !bytes.Equal(got, b) || e != api.OK {
			t.Errorf("Numbers: %d = % x, %d, want %s", c.n, got, e, c.want)
		}
		if got, _, e := msg.DecodeOp(b); got.At != c.n || e != api.OK {
			t.Errorf("Numbers: %s = %d, %d, want %d", c.want, got.At, e, c.n)
		}
	}
}
