package world_test

import (
	"bytes"
	"encoding/binary"
	"slices"

	"redraft/api"
	"redraft/frame"
	"redraft/msg"
	"redraft/op"
)

const journalName = "journal"

// plainDisk: a disk that has room for all, as chapter 11 tells it.
type plainDisk struct {
	files map[string]*api.File
	down  bool
	armed int // changing calls until one crashes, that one counted; 0: none does
	keep  int
}

func (d *plainDisk) list() []api.File {
	var out []api.File
	for _, f := range d.files {
		out = append(out, api.File{Name: f.Name, Bytes: bytes.Clone(f.Bytes), Synced: f.Synced})
	}
	slices.SortFunc(out, func(a, b api.File) int { return bytes.Compare([]byte(a.Name), []byte(b.Name)) })
	return out
}

// crashes: a changing call is counted; whether the disk gives up in it.
func (d *plainDisk) crashes() bool {
	if d.armed == 0 {
		return false
	}
	d.armed--
	return d.armed == 0
}

// crash: chapter 11's 'a crash that keeps k'.
func (d *plainDisk) crash() {
	for name, f := range d.files {
		if loose := len(f.Bytes) - f.Synced; loose > d.keep {
			f.Bytes = f.Bytes[:f.Synced+d.keep]
		}
		f.Synced = len(f.Bytes)
		if len(f.Bytes) == 0 {
			delete(d.files, name)
		}
	}
	d.down, d.armed = true, 0
}

// write, sync, cut: of the journal; whether the disk still runs.
func (d *plainDisk) write(b []byte) bool {
	if d.files[journalName] == nil {
		d.files[journalName] = &api.File{Name: journalName}
	}
	f := d.files[journalName]
	f.Bytes = append(slices.Clone(f.Bytes), b...)
	if d.crashes() {
		d.crash()
	}
	return !d.down
}

func (d *plainDisk) sync() bool {
	if d.crashes() {
		d.crash()
		return false
	}
	f := d.files[journalName]
	f.Synced = len(f.Bytes)
	return true
}

func (d *plainDisk) cut(size int) bool {
	if d.crashes() {
		d.crash()
		return false
	}
	f := d.files[journalName]
	f.Bytes = f.Bytes[:size]
	f.Synced = min(f.Synced, size)
	return true
}

// recordOf: the frame of record k.
func recordOf(k int, o api.Op) []byte {
	coded, e := msg.EncodeOp(o)
	if e != api.OK {
		panic(e)
	}
	b, e := frame.Wrap(append(binary.BigEndian.AppendUint32(nil, uint32(k)), coded...))
	if e != api.OK {
		panic(e)
	}
	return b
}

// recordsOf: the records of a file's bytes, and how many bytes they fill.
func recordsOf(b []byte) (records [][]byte, good int) {
	for good < len(b) {
		payload, n, e := frame.First(b[good:])
		if e != api.OK || len(payload) < 4 || int(binary.BigEndian.Uint32(payload)) != len(records) {
			break
		}
		records, good = append(records, payload[4:]), good+n
	}
	return records, good
}

// open: P12.3: the records that are left; false, if the disk has crashed.
func (d *plainDisk) open() ([][]byte, bool) {
	f := d.files[journalName]
	if f == nil {
		return nil, true
	}
	records, good := recordsOf(f.Bytes)
	if good < len(f.Bytes) && !d.cut(good) {
		return nil, false
	}
	if f.Synced < good && !d.sync() {
		return nil, false
	}
	return records, true
}

// hub: a server as chapter 14 tells it.
type hub struct {
	d       *plainDisk
	lim     api.Limits
	log     order
	view    order // what of the log is durable
	known   map[int]int
	hello   map[int]int
	again   map[int]int // by client: the number of the command
	stopped bool
}

// bootHub: P14.2.
func bootHub(d *plainDisk, lim api.Limits) (*hub, api.Errno) {
	records, ok := d.open()
	if !ok {
		return nil, api.ErrDown
	}
	h := &hub{d: d, lim: lim, known: map[int]int{}, hello: map[int]int{}, again: map[int]int{}}
	for k, b := range records {
		o, _, e := msg.DecodeOp(b)
		if e != api.OK {
			return nil, e
		}
		made, _, cells := h.log.by(o.ID[0])
		switch {
		case o.ID[0] > lim.Clients:
			return nil, api.ErrClient
		case o.ID[1] != made+1:
			return nil, api.ErrSeq
		case o.ID[1] > lim.Ops:
			return nil, api.ErrOps
		case cells+op.Width(o) > lim.Cells:
			return nil, api.ErrCells
		}
		if e := h.log.fits(k, o); e != api.OK {
			return nil, e
		}
		h.log.put(k, meaning(h.log.row(k), o))
	}
	h.view = h.log
	return h, api.OK
}

func (h *hub) durable() int { return len(h.view.list) }

// handle: P14.3.
func (h *hub) handle(b []byte) api.Errno {
	if h.stopped {
		return api.ErrStopped
	}
	m, e := msg.Unseal(b)
	switch {
	case e != api.OK:
		return e
	case m.Code != api.Hello && m.Code != api.Submit:
		return api.ErrCode
	case m.Client < 1 || m.Client > h.lim.Clients:
		return api.ErrClient
	case m.Code == api.Submit:
		return h.submit(m.Client, m.Rev, m.Op)
	case m.Rev < 0 || m.Rev > h.durable():
		return api.ErrBase
	}
	h.hello[m.Client], h.known[m.Client] = m.Rev, 1
	return api.OK
}

// submit: P14.4.
func (h *hub) submit(c, rev int, o api.Op) api.Errno {
	made, last, cells := h.log.by(c)
	switch n := o.ID[1]; {
	case o.ID[0] != c:
		return api.ErrClient
	case n < made:
		return api.ErrStale
	case n == made:
		h.again[c], h.known[c] = n, 1
		return api.OK
	case n > made+1:
		return api.ErrSeq
	case n > h.lim.Ops:
		return api.ErrOps
	case rev < last || rev > h.durable():
		return api.ErrBase
	case cells+op.Width(o) > h.lim.Cells:
		return api.ErrCells
	}
	if e := h.log.fits(rev, o); e != api.OK {
		return e
	}
	k := len(h.log.list)
	m := meaning(h.log.row(rev), o)
	if !h.d.write(recordOf(k, m.form(h.log.see().row))) {
		h.stopped = true
		return api.ErrStopped
	}
	h.log.put(k, m)
	h.known[c] = 1
	return api.OK
}

// tick: P14.5.
func (h *hub) tick() ([]api.Packet, api.Errno) {
	old, all := h.durable(), len(h.log.list)
	if h.stopped || all > old && !h.d.sync() {
		h.stopped = true
		return nil, api.ErrStopped
	}
	h.view = h.log
	var out []api.Packet
	for c := 1; c <= h.lim.Clients; c++ {
		if r, said := h.hello[c]; said {
			for k := r + 1; k <= old; k++ {
				out = append(out, h.cast(c, k))
			}
		}
	}
	for k := old + 1; k <= all; k++ {
		for c := 1; c <= h.lim.Clients; c++ {
			switch id := h.log.list[k-1].ID; {
			case h.known[c] == 0:
			case id[0] == c:
				out = append(out, ackOf(c, k, id[1]))
			default:
				out = append(out, h.cast(c, k))
			}
		}
	}
	for c := 1; c <= h.lim.Clients; c++ {
		n, sent := h.again[c]
		if k := h.log.find(api.ID{c, n}) + 1; sent && k <= old {
			out = append(out, ackOf(c, k, n))
		}
	}
	clear(h.hello)
	clear(h.again)
	return out, api.OK
}

// cast: to client c, of revision r.
func (h *hub) cast(c, r int) api.Packet {
	p, _ := msg.Seal(0, c, api.Msg{Code: api.Cast, Client: c, Rev: r, Op: h.log.see().ops[r-1]})
	return p
}

// ackOf: to client c: its command n is revision r.
func ackOf(c, r, n int) api.Packet {
	p, _ := msg.Seal(0, c, api.Msg{Code: api.Ack, Client: c, Rev: r, Seq: n})
	return p
}
