package server_test

import (
	"bytes"
	"errors"
	"reflect"
	"slices"
	"testing"
	"unsafe"

	"redraft/api"
	"redraft/disk"
	"redraft/server"
)

// roomy: b with spare room behind it, which holds known bytes.
func roomy(b []byte) []byte {
	out := append(bytes.Clone(b), bytes.Repeat([]byte{0xa5}, 40)...)
	return out[:len(b)]
}

// overwrite: all of a list's memory, spare room too, and what an append writes.
func overwrite(b []byte) {
	whole := b[:cap(b)]
	for i := range whole {
		whole[i] ^= 0xff
	}
	_ = append(b, 1, 2, 3)
}

// Frames that were handed in are not changed, and are written over afterwards.
func TestP14_1HandedIn(t *testing.T) {
	d := made(t, wide)
	s := boot(t, d, room)
	x := pairAt(t)
	for _, b := range [][]byte{
		hello(3, 0), sub(1, 0, `1.1 ins 0 "abcdef"`), sub(2, 0, `2.1 ins 0 "xyz"`), sub(2, 0, `2.1 ins 0 "xyz"`), nil,
		sub(1, 2, `1.2 hide 0-1,3-4`), sub(3, 1, `3.1 off 1.1`), sub(2, 2, `2.2 ins 1 "\u{e9}"`), []byte("junk"), hello(2, 0), hello(1, 9),
		nil, sub(1, 5, `1.3 on 1.1`), sub(1, 5, `1.4 on 1.1`), nil,
	} {
		x.do(handle(b))
		in := roomy(b)
		err := s.Handle(in)
		if whole := in[:len(b)+40]; !bytes.Equal(whole[:len(b)], b) || !bytes.Equal(whole[len(b):], bytes.Repeat([]byte{0xa5}, 40)) {
			t.Fatalf("P14.1: Handle has changed what it was handed: %x", whole)
		}
		overwrite(in)
		if b == nil {
			mustFail(t, err, "Handle", 0, api.ErrShort)
			got, err := s.Tick()
			must(t, err)
			if want := x.do(tick()).packets; !slices.Equal(told(t, got), told(t, want)) {
				t.Fatalf("P14.1: told %q, want %q", told(t, got), told(t, want))
			}
		}
		if got, want := logOf(t, s), logOf(t, x.ss[0]); !slices.Equal(got, want) || s.Text() != x.ss[0].Text() || show(d) != show(x.d) {
			t.Fatalf("P14.1: what was handed in is kept: the log is %q, want %q", got, want)
		}
	}
	if s.Revision() < 6 {
		t.Fatalf("only %d are written", s.Revision())
	}
}

// stretch: where a list lies in memory, spare room too.
type stretch struct{ lo, hi uintptr }

func stretchOf[T any](l []T) stretch {
	var one T
	lo := uintptr(unsafe.Pointer(unsafe.SliceData(l)))
	return stretch{lo, lo + uintptr(cap(l))*unsafe.Sizeof(one)}
}

// apart: no two of these lists have a byte of memory in common.
func apart(t *testing.T, what string, all []stretch) {
	t.Helper()
	for i, a := range all {
		for _, b := range all[:i] {
			if a.lo < b.hi && b.lo < a.hi && a.lo < a.hi && b.lo < b.hi {
				t.Fatalf("P14.1: %s: two lists share memory", what)
			}
		}
	}
}

// busy: a server with commands of all kinds, the last two of them not durable.
func busy(t *testing.T) (*server.Server, *disk.Disk) {
	t.Helper()
	d := made(t, wide)
	s := boot(t, d, room)
	for _, b := range [][]byte{sub(1, 0, `1.1 ins 0 "abcdef"`), sub(2, 0, `2.1 ins 0 "xyz"`), nil, sub(1, 2, `1.2 hide 0-1,3-4,6-9`), sub(2, 2, `2.2 off 1.1`), nil, sub(1, 4, `1.3 hide 1-2,4-6`), sub(3, 1, `3.1 hide 0-3`)} {
		if b == nil {
			_, err := s.Tick()
			must(t, err)
			continue
		}
		must(t, s.Handle(b))
	}
	return s, d
}

// What Log has answered is written over and appended to: nobody sees it, and the next answer lies elsewhere.
func TestP14_1LogOut(t *testing.T) {
	s, d := busy(t)
	want, disk := logOf(t, s), show(d)
	var all []stretch
	for range 3 {
		list, err := s.Log(0, s.Revision())
		must(t, err)
		all = append(all, stretchOf(list))
		for _, o := range list {
			all = append(all, stretchOf(o.Ranges))
		}
		apart(t, "Log", all)
		for i, o := range list[:cap(list)] {
			whole := o.Ranges[:cap(o.Ranges)]
			for k := range whole {
				whole[k] = api.Range{Lo: -7, Hi: 77}
			}
			_ = append(o.Ranges, api.Range{Lo: 1, Hi: 2})
			list[:cap(list)][i] = api.Op{Text: "spoilt"}
		}
		_ = append(list, api.Op{Text: "appended"})
		if got := logOf(t, s); !slices.Equal(got, want) {
			t.Fatalf("P14.1: Log = %q, want %q", got, want)
		}
	}
	// A part of the log, whose spare room could be the rest.
	part, err := s.Log(1, 3)
	must(t, err)
	_ = append(part, api.Op{Text: "appended"})
	ps, err := s.Tick()
	must(t, err)
	if got := short(t, ps); got != "A5>1 C5>2 C5>3 C6>1 C6>2 A6>3" || !slices.Equal(logOf(t, s), want) {
		t.Fatalf("P14.1: told %q, the log is %q, want %q", got, logOf(t, s), want)
	}
	if again := logOf(t, boot(t, d, room)); !slices.Equal(again, want) || show(d) == disk {
		t.Fatalf("P14.1: booted with %q, want %q", again, want)
	}
}

// What Tick has answered is written over and appended to.
func TestP14_1PacketsOut(t *testing.T) {
	s, d := busy(t)
	log := logOf(t, s)
	_, err := s.Tick()
	must(t, err)
	disk := show(d)
	var want []string
	var all []stretch
	for i := range 3 {
		for c := 1; c <= 3; c++ {
			must(t, s.Handle(hello(c, 0)))
		}
		ps, err := s.Tick()
		must(t, err)
		if i == 0 {
			want = told(t, ps)
		}
		if got := told(t, ps); !slices.Equal(got, want) || len(got) != 18 {
			t.Fatalf("P14.1: told %q, want %q", got, want)
		}
		all = append(all, stretchOf(ps))
		for _, p := range ps {
			all = append(all, stretchOf(p.Bytes))
		}
		apart(t, "Tick", all)
		for _, p := range ps {
			overwrite(p.Bytes)
		}
		whole := ps[:cap(ps)]
		for k := range whole {
			whole[k] = api.Packet{From: 7}
		}
		_ = append(ps, api.Packet{})
	}
	if got := logOf(t, s); !slices.Equal(got, log) || show(d) != disk {
		t.Fatalf("P14.1: the log is %q, want %q", got, log)
	}
}

// What Known and the view have answered is written over.
func TestP14_1ListsOut(t *testing.T) {
	s, _ := busy(t)
	before := view(t, &s.Replica)
	for range 2 {
		known := s.Known()
		if !slices.Equal(known, []int{1, 2, 3}) {
			t.Fatalf("P14.1: Known %v", known)
		}
		for i := range known[:cap(known)] {
			known[:cap(known)][i] = 99
		}
		_ = append(known, 98)
		for i := range s.Runs() {
			s.Runs()[i] = api.Run{Text: "spoilt"}
		}
		list, err := s.Ops(0, s.Len())
		must(t, err)
		for _, o := range list {
			for k := range o.Ranges {
				o.Ranges[k] = api.Range{Lo: 5, Hi: 1}
			}
		}
		if got := view(t, &s.Replica); !reflect.DeepEqual(got, before) {
			t.Fatalf("P14.1: the view tells %+v, want %+v", got, before)
		}
	}
}

// Faults that were answered are written over: the next ones are right.
func TestP14_1FaultsOut(t *testing.T) {
	spoil := func(err error) {
		for f := (*api.Fault)(nil); errors.As(err, &f); {
			err = f.Err
			*f = api.Fault{Call: "spoilt", At: 9, Err: errors.New("x")}
			if err == nil {
				return
			}
		}
	}
	d := made(t, 50)
	s := boot(t, d, room)
	must(t, s.Handle(sub(1, 0, `1.1 ins 0 "a"`)))
	for range 2 {
		_, err := s.Log(9, 9)
		mustFail(t, err, "Log", 9, api.ErrPlace)
		spoil(err)
		err = s.Handle(sub(2, 0, `2.1 ins 0 "more than there is room for"`))
		if got := troubleOf(t, err); got != "Handle at 0: Append at 1: redraft: error 111" {
			t.Fatal(got)
		}
		spoil(err)
	}
	d.Arm(1, 0)
	for range 3 {
		_, err := s.Tick()
		mustFail(t, err, "Tick", 0, api.ErrStopped)
		spoil(err)
		err = s.Handle(nil)
		mustFail(t, err, "Handle", 0, api.ErrStopped)
		spoil(err)
		_, err = server.Boot(d, room)
		if got := troubleOf(t, err); got != "Boot at 0: Open at 0: redraft: error 110" {
			t.Fatal(got)
		}
		spoil(err)
	}
}

// Servers have nothing to do with one another, each on a disk of its own.
func TestP14_1Apart(t *testing.T) {
	a, b := pairAt(t), pairAt(t)
	for n := 1; n <= 5; n++ {
		for _, x := range []*pair{a, b, b} {
			c := 1 + len(x.steps)%3
			last := x.ss[0].Last(c)
			x.do(handle(sealed(api.Msg{Code: api.Submit, Client: c, Rev: x.ss[0].Durable(), Op: api.Op{Head: api.Head{ID: api.ID{c, last + 1}, Kind: api.Ins}, Text: "x"}})))
			x.do(tick())
		}
	}
	if a.ss[0].Revision() != 5 || b.ss[0].Revision() != 10 {
		t.Fatalf("Revision %d and %d", a.ss[0].Revision(), b.ss[0].Revision())
	}
}
