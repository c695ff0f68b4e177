package journal_test

import (
	"errors"
	"strings"
	"testing"

	"redraft/api"
	"redraft/disk"
	"redraft/journal"
)

// The numbers that the chapter names.
func TestErrorsNumbers(t *testing.T) {
	for e, n := range map[api.Errno]int{api.ErrHandle: 3, api.ErrPlace: 12, api.ErrShort: 90, api.ErrMark: 91, api.ErrBig: 92, api.ErrSum: 93, api.ErrCut: 102, api.ErrDown: 110, api.ErrFull: 111, api.ErrFile: 112, api.ErrName: 113, api.ErrClosed: 120, api.ErrIndex: 121} {
		if int(e) != n {
			t.Errorf("Errors: %d, want %d", int(e), n)
		}
	}
}

// What an error says in words, and how it is asked.
func TestErrorsWords(t *testing.T) {
	_, _, _, err := journal.Open(nil, log)
	if err.Error() != "Open at 0: redraft: error 3" {
		t.Errorf("Errors: %q", err)
	}
	j := mustOpen(t, made(t, 20), 0)
	err = j.Append([]byte("more than fits"))
	if err.Error() != "Append at 0: redraft: error 111" || !errors.Is(err, api.ErrFull) || errors.Is(err, api.ErrDown) {
		t.Errorf("Errors: %q", err)
	}
	_, err = j.Records(5, 6)
	if err.Error() != "Records at 5: redraft: error 12" || errors.Unwrap(err) != error(api.ErrPlace) {
		t.Errorf("Errors: %q", err)
	}
}

// No error is nil itself, not a Fault that is nil, nor OK as an error.
func TestErrorsNil(t *testing.T) {
	d := made(t, wide)
	j, _, _, err := journal.Open(d, log)
	_, none := j.Records(0, 0)
	for i, err := range []error{err, j.Err(), j.Append(nil), j.Sync(), j.Sync(), none, j.Err()} {
		if err != nil {
			t.Errorf("Errors: call %d: %T %v", i, err, err)
		}
	}
}

// Where several errors apply: closed ahead of too great, too great ahead of the look, the look ahead of a full disk.
func TestP12_6Order(t *testing.T) {
	tooGreat := strings.Repeat("b", greatest+1)
	x := newPair(t, 30)
	x.all(opened(), appended(0, "a"))
	x.all(fileAppend([]byte{0}))
	x.is(appended(0, tooGreat), 1, api.ErrBig) // the length is wrong, but nobody has looked
	if x.js[0].Err() != nil {
		t.Fatal("P12.6: ErrBig closes the journal")
	}
	x.is(appended(0, "more than fits"), 1, api.ErrClosed)
	x.is(appended(0, tooGreat), 1, api.ErrClosed)
	x.is(appended(0, ""), 1, api.ErrClosed)

	x = newPair(t, 30)
	x.all(opened(), appended(0, "a"), crash(99))
	x.is(appended(0, tooGreat), 1, api.ErrBig)
	x.is(appended(0, "more than fits"), 1, api.ErrDown)
	x.is(appended(0, tooGreat), 1, api.ErrClosed)
	x.all(up())
	x.is(appended(0, ""), 1, api.ErrClosed) // though all is as it was

	x = newPair(t, 30)
	x.all(opened(), appended(0, "a"), arm(1, 0))
	x.is(appended(0, tooGreat), 1, api.ErrBig)
	x.is(appended(0, "more than fits"), 1, api.ErrDown) // the crash ahead of the full disk
}

// Err is the error that closed the journal, the very one, whatever comes later; a later error is another one.
func TestP12_4Err(t *testing.T) {
	closers := map[string]struct {
		e     api.Errno
		spoil func(*disk.Disk)
	}{
		"a disk that is down":      {api.ErrDown, func(d *disk.Disk) { d.Crash(0) }},
		"a crash in the call":      {api.ErrDown, func(d *disk.Disk) { d.Arm(1, 0) }},
		"no file":                  {api.ErrFile, func(d *disk.Disk) { d.Remove(log) }},
		"another length":           {api.ErrClosed, func(d *disk.Disk) { d.Cut(log, 1) }},
		"fewer durable bytes":      {api.ErrClosed, func(d *disk.Disk) { d.Cut(log, 0); d.Append(log, run("a", "b")) }},
		"a crash that takes bytes": {api.ErrClosed, func(d *disk.Disk) { d.Crash(0); d.Up() }},
	}
	calls := map[string]func(*journal.Journal) error{
		"Append": func(j *journal.Journal) error { return j.Append([]byte("x")) },
		"Sync":   func(j *journal.Journal) error { return j.Sync() },
	}
	for what, c := range closers {
		for name, call := range calls {
			d := made(t, wide)
			j := mustOpen(t, d, 0)
			must(t, j.Append([]byte("a")))
			must(t, j.Sync())
			must(t, j.Append([]byte("b")))
			c.spoil(d)
			if j.Err() != nil {
				t.Fatalf("P12.4: %s: closed before anybody has looked", what)
			}
			err := call(j)
			at := map[string]int{"Append": 2, "Sync": 1}[name]
			mustFail(t, err, name, at, c.e)
			d.Up()
			for range 2 {
				for other, again := range calls {
					next := again(j)
					mustFail(t, next, other, map[string]int{"Append": 2, "Sync": 1}[other], api.ErrClosed)
					if next == err || j.Err() != err {
						t.Fatalf("P12.4: %s: Err %v, want the very %v", what, j.Err(), err)
					}
				}
				j.Records(0, 2)
				j.Records(5, 2)
				mustFail(t, j.Err(), name, at, c.e)
			}
			if j.Len() != 2 || j.Durable() != 1 {
				t.Fatalf("P12.4: %s: Len %d, Durable %d", what, j.Len(), j.Durable())
			}
		}
	}
}

// The Cut's error behind a full disk closes too, and is the answer.
func TestP12_4ErrOfTheCut(t *testing.T) {
	d := made(t, 30)
	j := mustOpen(t, d, 0)
	must(t, j.Append([]byte("a")))
	d.Arm(2, 99)
	err := j.Append([]byte("b"))
	mustFail(t, err, "Append", 1, api.ErrDown)
	if j.Err() != err {
		t.Fatalf("P12.4: Err %v, want the very %v", j.Err(), err)
	}
	d.Up()
	fileIs(t, d, 30, 30)
	mustFail(t, j.Append(nil), "Append", 1, api.ErrClosed)
	mustOpen(t, d, 13, "a")
}
