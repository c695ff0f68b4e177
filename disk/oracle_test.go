package disk_test

import (
	"fmt"
	"math"
	"regexp"
	"slices"
	"sort"
	"strings"
	"testing"

	"redraft/api"
	"redraft/disk"
)

// greatest: the chapter's bound of a limit.
const greatest = 1099511627776

// Far beside every bound.
var far = []int{math.MinInt, math.MinInt + 1, -greatest, math.MaxInt - 1, math.MaxInt}

// plainByte: a byte that knows whether it is durable.
type plainByte struct {
	value   byte
	durable bool
}

// plainFile: a file, byte by byte.
type plainFile struct {
	name string
	row  []plainByte
}

// plain: a disk as the chapter's words tell it, in lists and flags.
type plain struct {
	limit  int
	files  []plainFile
	down   bool
	armed  bool
	number int // the changing call that crashes
	keep   int
	count  int // changing calls since it was armed
}

var named = regexp.MustCompile(`\A[a-z0-9.\-_]{1,32}\z`)

func (p *plain) index(name string) int {
	return slices.IndexFunc(p.files, func(f plainFile) bool { return f.name == name })
}

func (p *plain) used() int {
	n := 0
	for _, f := range p.files {
		n += len(f.row)
	}
	return n
}

// crash: 'A crash that keeps k'.
func (p *plain) crash(k int) {
	var left []plainFile
	for _, f := range p.files {
		var row []plainByte
		kept := 0
		for _, b := range f.row {
			if !b.durable {
				if kept == k {
					break
				}
				kept++
			}
			row = append(row, plainByte{b.value, true})
		}
		if len(row) > 0 {
			left = append(left, plainFile{f.name, row})
		}
	}
	p.files, p.down, p.armed = left, true, false
}

// told: the files as Files tells them.
func (p *plain) told() []api.File {
	var out []api.File
	for _, f := range p.files {
		x := api.File{Name: f.name}
		for _, b := range f.row {
			x.Bytes = append(x.Bytes, b.value)
			if b.durable {
				x.Synced++
			}
		}
		out = append(out, x)
	}
	sort.Slice(out, func(i, j int) bool { return out[i].Name < out[j].Name })
	return out
}

// call: a call with its arguments; a and b are its numbers in their order.
type call struct {
	kind string
	name string
	text string
	a, b int
	mask byte
}

func (c call) String() string {
	return fmt.Sprintf("%s(%q, %q, %d, %d, %d)", c.kind, c.name, c.text, c.a, c.b, c.mask)
}

// answer: what a call answers.
type answer struct {
	n, m int
	text string
	e    api.Errno
}

// named calls ask for a name; those of them that change are counted.
var (
	changing = []string{"Append", "Sync", "Cut", "Remove"}
	asking   = []string{"Read", "Size", "Turn"}
)

// refusal: P11.1's list, up to the crash; OK of a call that goes on.
func (p *plain) refusal(c call) api.Errno {
	size := -1
	if i := p.index(c.name); i >= 0 {
		size = len(p.files[i].row)
	}
	takesName := slices.Contains(changing, c.kind) || slices.Contains(asking, c.kind)
	beside := false
	switch c.kind {
	case "Cut":
		beside = c.a < 0 || c.a > size
	case "Read":
		beside = c.a < 0 || c.b < 0 || float64(c.a)+float64(c.b) > float64(size)
	case "Turn":
		beside = c.a < 0 || c.a >= size
	case "Arm":
		beside = c.a < 0 || c.a != 0 && c.b < 0
	case "Crash":
		beside = c.a < 0
	}
	switch {
	case c.kind == "Up":
		return api.OK
	case p.down:
		return api.ErrDown
	case takesName && !named.MatchString(c.name):
		return api.ErrName
	case takesName && c.kind != "Append" && size < 0:
		return api.ErrFile
	case beside:
		return api.ErrPlace
	}
	return api.OK
}

// put: an Append that is not refused: how many bytes there was room for.
func (p *plain) put(c call) int {
	i := p.index(c.name)
	if i < 0 {
		i = len(p.files)
		p.files = append(p.files, plainFile{name: c.name})
	}
	n := 0
	for n < len(c.text) && p.used() < p.limit {
		p.files[i].row = append(p.files[i].row, plainByte{c.text[n], false})
		n++
	}
	return n
}

// change: a changing call, which may be the one that crashes.
func (p *plain) change(c call) answer {
	n := 0
	if c.kind == "Append" {
		n = p.put(c)
	}
	if p.armed {
		p.count++
		if p.count == p.number {
			p.crash(p.keep)
			return answer{e: api.ErrDown}
		}
	}
	i := p.index(c.name)
	switch c.kind {
	case "Append":
		if n < len(c.text) {
			return answer{n: n, e: api.ErrFull}
		}
	case "Sync":
		for j := range p.files[i].row {
			p.files[i].row[j].durable = true
		}
	case "Cut":
		p.files[i].row = slices.Clone(p.files[i].row[:c.a])
	case "Remove":
		p.files = slices.Delete(p.files, i, i+1)
	}
	return answer{n: n}
}

// ask: any call.
func (p *plain) ask(c call) answer {
	if e := p.refusal(c); e != api.OK {
		return answer{e: e}
	}
	if slices.Contains(changing, c.kind) {
		return p.change(c)
	}
	i := p.index(c.name)
	switch c.kind {
	case "Read":
		var b []byte
		for _, x := range p.files[i].row[c.a : c.a+c.b] {
			b = append(b, x.value)
		}
		return answer{text: string(b)}
	case "Size":
		out := answer{n: len(p.files[i].row)}
		for _, x := range p.files[i].row {
			if x.durable {
				out.m++
			}
		}
		return out
	case "Turn":
		p.files[i].row[c.a].value ^= c.mask
	case "Arm":
		p.armed, p.number, p.keep, p.count = c.a > 0, c.a, c.b, 0
	case "Crash":
		p.crash(c.a)
	case "Up":
		p.down, p.armed = false, false
	}
	return answer{}
}

// ask: the same call of a disk.
func ask(d *disk.Disk, c call) answer {
	var out answer
	var b []byte
	switch c.kind {
	case "Append":
		out.n, out.e = d.Append(c.name, []byte(c.text))
	case "Sync":
		out.e = d.Sync(c.name)
	case "Cut":
		out.e = d.Cut(c.name, c.a)
	case "Remove":
		out.e = d.Remove(c.name)
	case "Read":
		b, out.e = d.Read(c.name, c.a, c.b)
		out.text = string(b)
	case "Size":
		out.n, out.m, out.e = d.Size(c.name)
	case "Turn":
		out.e = d.Turn(c.name, c.a, c.mask)
	case "Arm":
		out.e = d.Arm(c.a, c.b)
	case "Crash":
		out.e = d.Crash(c.a)
	case "Up":
		out.e = d.Up()
	default:
		panic("no call: " + c.kind)
	}
	return out
}

// show: files as a text, name:bytes/durable.
func show(files []api.File) string {
	var out []string
	for _, f := range files {
		out = append(out, fmt.Sprintf("%s:%q/%d", f.Name, f.Bytes, f.Synced))
	}
	return strings.Join(out, " ")
}

// pair: a disk, and what the chapter says of it, which must answer alike.
type pair struct {
	t     *testing.T
	d     *disk.Disk
	p     *plain
	calls []call
}

func newPair(t *testing.T, limit int) *pair {
	t.Helper()
	return &pair{t: t, d: made(t, limit), p: &plain{limit: limit}}
}

// made: a new disk.
func made(t *testing.T, limit int) *disk.Disk {
	t.Helper()
	d, e := disk.New(limit)
	if d == nil || e != api.OK {
		t.Fatalf("P11.2: New(%d) = %v, %d", limit, d != nil, e)
	}
	return d
}

// do: one call of both, and what can be seen behind it.
func (x *pair) do(c call) answer {
	x.t.Helper()
	x.calls = append(x.calls, c)
	got, want := ask(x.d, c), x.p.ask(c)
	if got != want {
		x.t.Fatalf("limit %d, %v = %v, want %v", x.p.limit, x.calls, got, want)
	}
	x.see()
	return got
}

func (x *pair) see() {
	x.t.Helper()
	if got, want := show(x.d.Files()), show(x.p.told()); got != want {
		x.t.Fatalf("limit %d, %v: files %s, want %s", x.p.limit, x.calls, got, want)
	}
	if got, want := x.d.Used(), x.p.used(); got != want {
		x.t.Fatalf("limit %d, %v: Used %d, want %d", x.p.limit, x.calls, got, want)
	}
	if got, want := x.d.Down(), x.p.down; got != want {
		x.t.Fatalf("limit %d, %v: Down %v, want %v", x.p.limit, x.calls, got, want)
	}
}

// all: calls one behind the other.
func (x *pair) all(calls ...call) {
	x.t.Helper()
	for _, c := range calls {
		x.do(c)
	}
}

// Short ways to write calls.
func put(name, text string) call        { return call{kind: "Append", name: name, text: text} }
func sync(name string) call             { return call{kind: "Sync", name: name} }
func cut(name string, size int) call    { return call{kind: "Cut", name: name, a: size} }
func remove(name string) call           { return call{kind: "Remove", name: name} }
func read(name string, off, n int) call { return call{kind: "Read", name: name, a: off, b: n} }
func size(name string) call             { return call{kind: "Size", name: name} }
func arm(steps, keep int) call          { return call{kind: "Arm", a: steps, b: keep} }
func crash(keep int) call               { return call{kind: "Crash", a: keep} }
func up() call                          { return call{kind: "Up"} }
func turn(name string, at int, mask byte) call {
	return call{kind: "Turn", name: name, a: at, mask: mask}
}
