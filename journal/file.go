package journal

import (
	"redraft/api"
	"redraft/disk"
)

// file: a file of a disk, whose answers are handed on as errors.
type file struct {
	disk *disk.Disk
	name string
}

func (f file) size() (size, synced int, err error) {
	size, synced, e := f.disk.Size(f.name)
	return size, synced, told(e)
}

func (f file) read(off, n int) ([]byte, error) {
	b, e := f.disk.Read(f.name, off, n)
	return b, told(e)
}

func (f file) cut(size int) error { return told(f.disk.Cut(f.name, size)) }

func (f file) sync() error { return told(f.disk.Sync(f.name)) }

// load: all bytes of the file, and how many of them are durable; none where there is no file.
func (f file) load() (b []byte, synced int, err error) {
	size, synced, err := f.size()
	if number(err) == api.ErrFile {
		return nil, 0, nil
	}
	if err != nil {
		return nil, 0, err
	}
	b, err = f.read(0, size)
	return b, synced, err
}

// mend: the file becomes its good bytes, all durable; cut others stand behind them. What needs no change gets none.
func (f file) mend(good, cut, synced int) error {
	if cut > 0 {
		if err := f.cut(good); err != nil {
			return err
		}
	}
	if synced < good {
		return f.sync()
	}
	return nil
}

// write: bytes behind the file's first size ones. What a full disk has written of them is taken back: a torn frame would hide all that come behind it.
func (f file) write(b []byte, size int) error {
	n, e := f.disk.Append(f.name, b)
	err := told(e)
	if number(err) == api.ErrFull && n > 0 {
		if err := f.cut(size); err != nil {
			return err
		}
	}
	return err
}
