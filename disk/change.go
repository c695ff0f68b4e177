package disk

import (
	"strings"

	"redraft/api"
)

// Append: bytes at the end of a file (a new one, if there is none); how many were written: on a full disk those that fit, and ErrFull.
func (d *Disk) Append(name string, b []byte) (int, api.Errno) {
	if e := d.ready(name); e != api.OK {
		return 0, e
	}
	n := min(len(b), d.limit-d.Used())
	f := d.fileOf(name)
	f.bytes = append(f.bytes, b[:n]...)
	if d.due() {
		return 0, d.giveUp()
	}
	if n < len(b) {
		return n, api.ErrFull
	}
	return n, api.OK
}

// fileOf: the file of a name, which is made if there is none.
func (d *Disk) fileOf(name string) *file {
	f := d.files[name]
	if f == nil {
		f = &file{}
		d.files[strings.Clone(name)] = f
	}
	return f
}

// Sync: all bytes of a file are durable.
func (d *Disk) Sync(name string) api.Errno {
	f, e := d.find(name)
	if e != api.OK {
		return e
	}
	if d.due() {
		return d.giveUp()
	}
	f.sync()
	return api.OK
}

// Cut: a file's first size bytes stay, at once and for good.
func (d *Disk) Cut(name string, size int) api.Errno {
	f, e := d.find(name)
	if e != api.OK {
		return e
	}
	if size < 0 || size > len(f.bytes) {
		return api.ErrPlace
	}
	if d.due() {
		return d.giveUp()
	}
	f.cut(size)
	return api.OK
}

// Remove: a file goes, at once and for good.
func (d *Disk) Remove(name string) api.Errno {
	if _, e := d.find(name); e != api.OK {
		return e
	}
	if d.due() {
		return d.giveUp()
	}
	delete(d.files, name)
	return api.OK
}

// Turn: a byte of a file is turned by a mask (to try recoveries).
func (d *Disk) Turn(name string, at int, mask byte) api.Errno {
	f, e := d.find(name)
	if e != api.OK {
		return e
	}
	if at < 0 || at >= len(f.bytes) {
		return api.ErrPlace
	}
	f.bytes[at] ^= mask
	return api.OK
}
