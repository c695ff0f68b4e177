package disk_test

import (
	"bytes"
	"math"
	"math/rand"
	"testing"

	"redraft/api"
)

// number: small ones mostly, ends of a file's length, now and then a far one.
func number(r *rand.Rand, n int) int {
	switch r.Intn(12) {
	case 0:
		return far[r.Intn(len(far))]
	case 1:
		return -1
	case 2:
		return n
	case 3:
		return n + 1
	}
	return r.Intn(n + 1)
}

func randomText(r *rand.Rand) string {
	b := make([]byte, r.Intn(7))
	for i := range b {
		b[i] = byte('a' + r.Intn(26))
	}
	return string(b)
}

// randomCall: any call, of a few names, mostly at numbers that the disk has.
func randomCall(r *rand.Rand, p *plain) call {
	name := []string{"a", "b", "c", "d.0", "a", "b", "a", "B!"}[r.Intn(8)]
	n := 4
	if i := p.index(name); i >= 0 {
		n = len(p.files[i].row)
	}
	if p.down && r.Intn(3) > 0 {
		return up()
	}
	switch r.Intn(22) {
	case 0, 1, 2, 3, 4, 5, 6:
		return put(name, randomText(r))
	case 7, 8, 9:
		return sync(name)
	case 10, 11:
		return cut(name, number(r, n))
	case 12:
		return remove(name)
	case 13, 14:
		return read(name, number(r, n), number(r, n))
	case 15:
		return size(name)
	case 16:
		return turn(name, number(r, n), byte(r.Intn(256)))
	case 17, 18:
		return arm(number(r, 4), number(r, 4))
	case 19:
		return arm(r.Intn(4), r.Intn(3))
	case 20:
		return crash(number(r, 3))
	}
	return up()
}

// Long scripts of all calls, beside the chapter's words.
func TestP11_1Scripts(t *testing.T) {
	r := rand.New(rand.NewSource(44))
	for range 4000 {
		x := newPair(t, r.Intn(40))
		for range 60 {
			x.do(randomCall(r, x.p))
		}
	}
}

// Every script of four calls out of these, behind one file that is half durable.
func TestP11_1AllShortScripts(t *testing.T) {
	calls := []call{put("a", "x"), put("a", "yzw"), put("b", ""), put("b", "q"), sync("a"), sync("b"), cut("a", 1), cut("b", 0), remove("a"), arm(1, 0), arm(2, 1), arm(0, 0), crash(0), crash(1), up(), turn("a", 0, 3)}
	n := len(calls)
	for i := range n * n * n * n {
		x := newPair(t, 5)
		x.all(put("a", "0"), sync("a"), put("a", "1"), calls[i%n], calls[i/n%n], calls[i/n/n%n], calls[i/n/n/n])
	}
}

// Two disks side by side have nothing to do with one another.
func TestP11_1Apart(t *testing.T) {
	r := rand.New(rand.NewSource(45))
	for range 500 {
		x, y := newPair(t, r.Intn(30)), newPair(t, r.Intn(30))
		for range 40 {
			x.do(randomCall(r, x.p))
			y.see()
			y.do(randomCall(r, y.p))
			x.see()
		}
	}
}

// durable: the durable bytes of each file, as Files tells them.
func durable(files []api.File) map[string][]byte {
	out := map[string][]byte{}
	for _, f := range files {
		out[f.Name] = f.Bytes[:f.Synced]
	}
	return out
}

// What is durable stays through every call but a Cut below it, a Remove and a Turn.
func TestP11_14Durable(t *testing.T) {
	r := rand.New(rand.NewSource(46))
	for range 2000 {
		x := newPair(t, 20+r.Intn(40))
		kept := map[string][]byte{}
		for range 60 {
			c := randomCall(r, x.p)
			got := ask(x.d, c)
			x.p.ask(c)
			done := got.e == api.OK
			switch {
			case done && c.kind == "Remove":
				delete(kept, c.name)
			case done && c.kind == "Cut" && c.a < len(kept[c.name]):
				kept[c.name] = kept[c.name][:c.a]
			case done && c.kind == "Turn" && c.a < len(kept[c.name]):
				b := bytes.Clone(kept[c.name])
				b[c.a] ^= c.mask
				kept[c.name] = b
			}
			now := durable(x.d.Files())
			for name, b := range kept {
				if !bytes.HasPrefix(now[name], b) {
					t.Fatalf("P11.14: behind %v: %q: durable %q, was %q", c, name, now[name], b)
				}
			}
			kept = now
		}
	}
}

// Behind a crash each file that is left is a prefix of what it was, not shorter than what was durable.
func TestP11_15Prefix(t *testing.T) {
	r := rand.New(rand.NewSource(47))
	crashes := 0
	for range 4000 {
		x := newPair(t, r.Intn(40))
		for range 40 {
			c := randomCall(r, x.p)
			ahead, down := x.d.Files(), x.d.Down()
			ask(x.d, c)
			x.p.ask(c)
			if down || !x.d.Down() {
				continue
			}
			crashes++
			holdPrefixes(t, c, ahead, x.d.Files())
		}
	}
	if crashes < 1000 {
		t.Fatalf("only %d crashes", crashes)
	}
}

func holdPrefixes(t *testing.T, c call, ahead, behind []api.File) {
	t.Helper()
	was, hard := map[string][]byte{}, durable(ahead)
	for _, f := range ahead {
		was[f.Name] = f.Bytes
	}
	if c.kind == "Append" {
		was[c.name] = append(bytes.Clone(was[c.name]), c.text...)
	}
	left := map[string]int{}
	for _, f := range behind {
		left[f.Name] = len(f.Bytes)
		if _, there := was[f.Name]; !there || !bytes.HasPrefix(was[f.Name], f.Bytes) || len(f.Bytes) < len(hard[f.Name]) || f.Synced != len(f.Bytes) {
			t.Fatalf("P11.15: %v: %q is left of %q, %q durable", c, f.Bytes, was[f.Name], hard[f.Name])
		}
	}
	for name, b := range hard {
		if left[name] < len(b) {
			t.Fatalf("P11.15: %v: %q, durable %q, is gone", c, name, b)
		}
	}
}

// Used is the sum of the lengths, never above the limit.
func TestP11_16Limit(t *testing.T) {
	r := rand.New(rand.NewSource(48))
	for range 3000 {
		limit := r.Intn(20)
		d := made(t, limit)
		p := &plain{limit: limit}
		for range 40 {
			c := randomCall(r, p)
			ask(d, c)
			p.ask(c)
			sum := 0
			for _, f := range d.Files() {
				sum += len(f.Bytes)
			}
			if d.Used() != sum || sum > limit {
				t.Fatalf("P11.16: limit %d: behind %v: Used %d, lengths %d", limit, c, d.Used(), sum)
			}
		}
	}
}

// A great Append, and a disk that is filled byte by byte.
func TestP11_16Great(t *testing.T) {
	b := bytes.Repeat([]byte("0123456789abcdef"), 1<<16)
	for _, limit := range []int{len(b) - 1, len(b), len(b) + 1} {
		d := made(t, limit)
		want, e := len(b), api.OK
		if limit < len(b) {
			want, e = limit, api.ErrFull
		}
		if n, f := d.Append("great", b); n != want || f != e || d.Used() != want {
			t.Fatalf("P11.16: limit %d: Append of %d = %d, %d, used %d", limit, len(b), n, f, d.Used())
		}
		if got, _ := d.Read("great", 0, want); !bytes.Equal(got, b[:want]) {
			t.Fatalf("P11.3: limit %d: other bytes", limit)
		}
		if _, f := d.Read("great", math.MaxInt, math.MaxInt); f != api.ErrPlace {
			t.Fatalf("P11.7: %d", f)
		}
	}
	d := made(t, 3000)
	for i := range 3010 {
		want := answer{n: 1}
		if i >= 3000 {
			want = answer{e: api.ErrFull}
		}
		if got := ask(d, put("slow", "x")); got != want {
			t.Fatalf("P11.16: byte %d: %v", i, got)
		}
	}
}
