package journal_test

import (
	"encoding/binary"
	"errors"
	"fmt"
	"hash/crc32"
	"math"
	"reflect"
	"slices"
	"strings"
	"testing"

	"redraft/api"
	"redraft/disk"
	"redraft/frame"
	"redraft/journal"
)

// log: the name of the file in most tests; greatest: the bytes of the greatest record; wide: a limit that no test reaches.
const (
	log      = "log"
	greatest = 131068
	wide     = 1 << 24
)

// Far beside every bound.
var far = []int{math.MinInt, math.MinInt + 1, -1 << 40, 1 << 40, math.MaxInt - 1, math.MaxInt}

var castagnoli = crc32.MakeTable(crc32.Castagnoli)

// frameOf: the frame of a payload, byte by byte as chapter 9 lays it out.
func frameOf(payload []byte) []byte {
	n := uint32(len(payload))
	b := binary.BigEndian.AppendUint32(nil, n)[1:]
	b = append([]byte{0xc7, 0x9d}, b...)
	b = append(b, binary.BigEndian.AppendUint32(nil, ^n)[1:]...)
	b = binary.BigEndian.AppendUint32(b, crc32.Checksum(payload, castagnoli))
	return append(b, payload...)
}

// framed: the frame of record k.
func framed(k int, record string) []byte {
	return frameOf(append(binary.BigEndian.AppendUint32(nil, uint32(k)), record...))
}

// run: the frames of records 0, 1 ..
func run(records ...string) []byte {
	var out []byte
	for k, r := range records {
		out = append(out, framed(k, r)...)
	}
	return out
}

// recordsOf: the chapter's 'records of bytes b': all frames first, as Scan tells them, and of these the first ones that are records.
func recordsOf(b []byte) (records []string, good int, why api.Errno) {
	payloads, _, e := frame.Scan(b)
	for k, p := range payloads {
		if len(p) < 4 {
			return records, good, api.ErrCut
		}
		if binary.BigEndian.Uint32(p) != uint32(k) {
			return records, good, api.ErrIndex
		}
		records = append(records, string(p[4:]))
		good += 12 + len(p)
	}
	return records, good, e
}

// trouble: what an error tells; trouble{} of nil.
type trouble struct {
	call string
	at   int
	e    api.Errno
}

// troubleOf: an error's trouble; it must be a Fault around a number itself.
func troubleOf(t *testing.T, err error) trouble {
	t.Helper()
	if err == nil {
		return trouble{}
	}
	f, ok := err.(*api.Fault)
	if !ok || f == nil {
		t.Fatalf("Errors: %T, want a Fault", err)
	}
	e, ok := f.Err.(api.Errno)
	if !ok || e == api.OK {
		t.Fatalf("Errors: %T %v within a Fault, want a number", f.Err, f.Err)
	}
	var g *api.Fault
	if !errors.Is(err, e) || !errors.As(err, &g) || g != f || api.Code(err) != e {
		t.Fatalf("Errors: %v is not found by errors.Is, errors.As and api.Code", err)
	}
	return trouble{f.Call, f.At, e}
}

// strs: records as texts.
func strs(list [][]byte) []string {
	var out []string
	for _, b := range list {
		out = append(out, string(b))
	}
	return out
}

// plain: a journal as the chapter's words tell it: all its frames, and a disk of its own, of which it asks what the chapter names.
type plain struct {
	d       *disk.Disk
	name    string
	frames  [][]byte
	durable int
	shut    trouble // what closed it
}

func total(frames [][]byte) int { return len(slices.Concat(frames...)) }

// openPlain: P12.3, step by step.
func openPlain(d *disk.Disk, name string) (*plain, []string, int, trouble) {
	if d == nil {
		return nil, nil, 0, trouble{"Open", 0, api.ErrHandle}
	}
	p := &plain{d: d, name: name}
	size, _, e := d.Size(name)
	if e == api.ErrFile {
		return p, nil, 0, trouble{}
	}
	if e != api.OK {
		return nil, nil, 0, trouble{"Open", 0, e}
	}
	b, e := d.Read(name, 0, size)
	if e != api.OK {
		return nil, nil, 0, trouble{"Open", 0, e}
	}
	records, good, _ := recordsOf(b)
	cut := size - good
	if cut > 0 {
		if e := d.Cut(name, good); e != api.OK {
			return nil, nil, 0, trouble{"Open", len(records), e}
		}
	}
	if _, synced, _ := d.Size(name); synced < good {
		if e := d.Sync(name); e != api.OK {
			return nil, nil, 0, trouble{"Open", len(records), e}
		}
	}
	for k, r := range records {
		p.frames = append(p.frames, framed(k, r))
	}
	p.durable = len(records)
	return p, records, cut, trouble{}
}

// close: the journal closes with that error, which is the answer.
func (p *plain) close(x trouble) trouble {
	p.shut = x
	return x
}

// look: P12.5.
func (p *plain) look(call string, at int) trouble {
	size, synced, e := p.d.Size(p.name)
	if e == api.ErrFile && total(p.frames) == 0 {
		return trouble{}
	}
	if e != api.OK {
		return p.close(trouble{call, at, e})
	}
	if size != total(p.frames) || synced < total(p.frames[:p.durable]) {
		return p.close(trouble{call, at, api.ErrClosed})
	}
	return trouble{}
}

// append: P12.6.
func (p *plain) append(record string) trouble {
	at := len(p.frames)
	if p.shut != (trouble{}) {
		return trouble{"Append", at, api.ErrClosed}
	}
	if len(record) > greatest {
		return trouble{"Append", at, api.ErrBig}
	}
	if x := p.look("Append", at); x != (trouble{}) {
		return x
	}
	b := framed(at, record)
	n, e := p.d.Append(p.name, b)
	if e == api.ErrFull {
		if n != 0 {
			if e := p.d.Cut(p.name, total(p.frames)); e != api.OK {
				return p.close(trouble{"Append", at, e})
			}
		}
		return trouble{"Append", at, api.ErrFull}
	}
	if e != api.OK {
		return p.close(trouble{"Append", at, e})
	}
	p.frames = append(p.frames, b)
	return trouble{}
}

// sync: P12.7.
func (p *plain) sync() trouble {
	at := p.durable
	if p.shut != (trouble{}) {
		return trouble{"Sync", at, api.ErrClosed}
	}
	if x := p.look("Sync", at); x != (trouble{}) {
		return x
	}
	if p.durable < len(p.frames) {
		if e := p.d.Sync(p.name); e != api.OK {
			return p.close(trouble{"Sync", at, e})
		}
		p.durable = len(p.frames)
	}
	return trouble{}
}

// records: P12.8.
func (p *plain) records(lo, hi int) ([]string, trouble) {
	if !(0 <= lo && lo <= hi && hi <= len(p.frames)) {
		return nil, trouble{"Records", lo, api.ErrPlace}
	}
	if lo == hi {
		return nil, trouble{}
	}
	off := total(p.frames[:lo])
	b, e := p.d.Read(p.name, off, total(p.frames[lo:hi]))
	if e != api.OK {
		return nil, trouble{"Records", lo, e}
	}
	var out []string
	for k := lo; k < hi; k++ {
		n := len(p.frames[k])
		payload, e := frame.Open(b[:n])
		b = b[n:]
		switch {
		case e != api.OK:
			return nil, trouble{"Records", k, e}
		case len(payload) < 4:
			return nil, trouble{"Records", k, api.ErrCut}
		case binary.BigEndian.Uint32(payload) != uint32(k):
			return nil, trouble{"Records", k, api.ErrIndex}
		}
		out = append(out, string(payload[4:]))
	}
	return out, trouble{}
}

// step: a call with its arguments: of journal number a (Append, Sync, Records), or of the disk.
type step struct {
	kind string
	a    int
	name string
	text string
	b, c int
}

func (s step) String() string {
	text := fmt.Sprintf("%q", s.text)
	if len(s.text) > 40 {
		text = fmt.Sprintf("%d bytes", len(s.text))
	}
	return fmt.Sprintf("%s(%d, %q, %s, %d, %d)", s.kind, s.a, s.name, text, s.b, s.c)
}

// Short ways to write steps.
func opened() step                   { return step{kind: "Open", name: log} }
func openedAs(name string) step      { return step{kind: "Open", name: name} }
func appended(i int, r string) step  { return step{kind: "Append", a: i, text: r} }
func synced(i int) step              { return step{kind: "Sync", a: i} }
func records(i, lo, hi int) step     { return step{kind: "Records", a: i, b: lo, c: hi} }
func crash(keep int) step            { return step{kind: "Crash", b: keep} }
func up() step                       { return step{kind: "Up"} }
func arm(steps, keep int) step       { return step{kind: "Arm", b: steps, c: keep} }
func fileAppend(b []byte) step       { return step{kind: "disk.Append", name: log, text: string(b)} }
func fileSync() step                 { return step{kind: "disk.Sync", name: log} }
func fileCut(size int) step          { return step{kind: "disk.Cut", name: log, b: size} }
func fileRemove() step               { return step{kind: "disk.Remove", name: log} }
func fileTurn(at int, mask int) step { return step{kind: "disk.Turn", name: log, b: at, c: mask} }

// reply: what a step answers.
type reply struct {
	records []string
	n       int
	trouble trouble
}

func (a reply) String() string {
	return fmt.Sprintf("%.200q, %d, %v", a.records, a.n, a.trouble)
}

// pair: journals on a disk, and what the chapter says of them on another, which must answer alike.
type pair struct {
	t     *testing.T
	d, e  *disk.Disk
	js    []*journal.Journal
	ps    []*plain
	errs  []error // each journal's Err, as it was seen last
	steps []step
}

// made: a new disk.
func made(t *testing.T, limit int) *disk.Disk {
	t.Helper()
	d, e := disk.New(limit)
	if d == nil || e != api.OK {
		t.Fatalf("chapter 11: New(%d) = %d", limit, e)
	}
	return d
}

// loaded: a disk with one file.
func loaded(t *testing.T, limit int, b []byte, synced int) *disk.Disk {
	t.Helper()
	d, e := disk.Load(limit, []api.File{{Name: log, Bytes: b, Synced: synced}})
	if d == nil || e != api.OK {
		t.Fatalf("chapter 11: Load(%d) = %d", limit, e)
	}
	return d
}

func newPair(t *testing.T, limit int) *pair {
	t.Helper()
	return &pair{t: t, d: made(t, limit), e: made(t, limit)}
}

// pairOf: as newPair, over a file that is there.
func pairOf(t *testing.T, b []byte, synced int) *pair {
	t.Helper()
	return &pair{t: t, d: loaded(t, wide, b, synced), e: loaded(t, wide, b, synced)}
}

// onDisk: a step of the disk alone.
func onDisk(d *disk.Disk, s step) reply {
	var out reply
	switch s.kind {
	case "disk.Append":
		out.n, out.trouble.e = d.Append(s.name, []byte(s.text))
	case "disk.Sync":
		out.trouble.e = d.Sync(s.name)
	case "disk.Cut":
		out.trouble.e = d.Cut(s.name, s.b)
	case "disk.Remove":
		out.trouble.e = d.Remove(s.name)
	case "disk.Turn":
		out.trouble.e = d.Turn(s.name, s.b, byte(s.c))
	case "Crash":
		out.trouble.e = d.Crash(s.b)
	case "Up":
		out.trouble.e = d.Up()
	case "Arm":
		out.trouble.e = d.Arm(s.b, s.c)
	default:
		panic("no step: " + s.kind)
	}
	return out
}

// ask: a step of the journals.
func (x *pair) ask(s step) (reply, error) {
	var out reply
	var list [][]byte
	var err error
	switch s.kind {
	case "Open":
		var j *journal.Journal
		j, list, out.n, err = journal.Open(x.d, s.name)
		if (j == nil) != (err != nil) {
			x.t.Fatalf("P12.3: %v: journal %v, error %v", x.steps, j, err)
		}
		if j != nil {
			x.js, x.errs = append(x.js, j), append(x.errs, nil)
		}
	case "Append":
		err = x.js[s.a].Append([]byte(s.text))
	case "Sync":
		err = x.js[s.a].Sync()
	case "Records":
		list, err = x.js[s.a].Records(s.b, s.c)
	default:
		return onDisk(x.d, s), nil
	}
	out.records, out.trouble = strs(list), troubleOf(x.t, err)
	return out, err
}

// want: the same step of the plain ones.
func (x *pair) want(s step) reply {
	var out reply
	switch s.kind {
	case "Open":
		var p *plain
		p, out.records, out.n, out.trouble = openPlain(x.e, s.name)
		if p != nil {
			x.ps = append(x.ps, p)
		}
	case "Append":
		out.trouble = x.ps[s.a].append(s.text)
	case "Sync":
		out.trouble = x.ps[s.a].sync()
	case "Records":
		out.records, out.trouble = x.ps[s.a].records(s.b, s.c)
	default:
		return onDisk(x.e, s)
	}
	return out
}

// do: one step of both, and what can be seen behind it.
func (x *pair) do(s step) reply {
	x.t.Helper()
	x.steps = append(x.steps, s)
	got, err := x.ask(s)
	if want := x.want(s); !reflect.DeepEqual(got, want) {
		x.t.Fatalf("%v = %v, want %v", x.steps, got, want)
	}
	x.see(s, err)
	return got
}

// see: files, lengths, and whether each journal is open; Err is the very error that closed it.
func (x *pair) see(s step, err error) {
	x.t.Helper()
	if got, want := show(x.d), show(x.e); got != want {
		x.t.Fatalf("%v: the disk is %s, want %s", x.steps, got, want)
	}
	for i, j := range x.js {
		p := x.ps[i]
		if j.Len() != len(p.frames) || j.Durable() != p.durable {
			x.t.Fatalf("P12.4: %v: journal %d: Len %d, Durable %d, want %d, %d", x.steps, i, j.Len(), j.Durable(), len(p.frames), p.durable)
		}
		now := j.Err()
		if got := troubleOf(x.t, now); got != p.shut {
			x.t.Fatalf("P12.4: %v: journal %d: Err %v, want %v", x.steps, i, got, p.shut)
		}
		if now != x.errs[i] && (x.errs[i] != nil || now != err || s.a != i) {
			x.t.Fatalf("P12.4: %v: journal %d: Err is another error than the one that closed it", x.steps, i)
		}
		x.errs[i] = now
	}
}

// show: a disk's files as a text, name:bytes/durable, and whether it is down.
func show(d *disk.Disk) string {
	var out []string
	for _, f := range d.Files() {
		out = append(out, fmt.Sprintf("%s:%x/%d", f.Name, f.Bytes, f.Synced))
	}
	return fmt.Sprint(strings.Join(out, " "), " down ", d.Down())
}

// all: steps one behind the other.
func (x *pair) all(steps ...step) {
	x.t.Helper()
	for _, s := range steps {
		x.do(s)
	}
}

// is: a step must answer this error, or none with OK.
func (x *pair) is(s step, at int, e api.Errno) {
	x.t.Helper()
	want := trouble{s.kind, at, e}
	if e == api.OK {
		want = trouble{}
	}
	if got := x.do(s).trouble; got != want {
		x.t.Fatalf("%v: %v, want %v", x.steps, got, want)
	}
}

// holds: the file must have so many bytes, of which so many are durable; size -1: there is none.
func (x *pair) holds(size, synced int) {
	x.t.Helper()
	fileIs(x.t, x.d, size, synced)
}

func fileIs(t *testing.T, d *disk.Disk, size, synced int) {
	t.Helper()
	for _, f := range d.Files() {
		if f.Name == log {
			if len(f.Bytes) != size || f.Synced != synced {
				t.Fatalf("the file has %d bytes, %d durable, want %d, %d", len(f.Bytes), f.Synced, size, synced)
			}
			return
		}
	}
	if size != -1 {
		t.Fatalf("there is no file, want %d bytes", size)
	}
}

// mustOpen: a journal that opens with these records, cut so many bytes.
func mustOpen(t *testing.T, d *disk.Disk, cut int, want ...string) *journal.Journal {
	t.Helper()
	j, list, n, err := journal.Open(d, log)
	if err != nil || j == nil || n != cut || !slices.Equal(strs(list), want) {
		t.Fatalf("P12.3: Open = %q, cut %d, %v, want %q, cut %d", list, n, err, want, cut)
	}
	if j.Len() != len(want) || j.Durable() != len(want) || j.Err() != nil {
		t.Fatalf("P12.4: behind Open: Len %d, Durable %d, Err %v, want %d records", j.Len(), j.Durable(), j.Err(), len(want))
	}
	return j
}

// mustFail: an error must tell this.
func mustFail(t *testing.T, err error, call string, at int, e api.Errno) {
	t.Helper()
	if got := troubleOf(t, err); got != (trouble{call, at, e}) {
		t.Fatalf("%v, want %v", got, trouble{call, at, e})
	}
}

// must: no error.
func must(t *testing.T, err error) {
	t.Helper()
	if err != nil {
		t.Fatal(err)
	}
}
