package journal_test

import (
	"math/rand"
	"slices"
	"strings"
	"testing"

	"redraft/api"
	"redraft/disk"
	"redraft/journal"
)

// writer: journals on one file, one behind the other, and what the latest of them knows of its records.
type writer struct {
	t       *testing.T
	d       *disk.Disk
	j       *journal.Journal
	list    []string // those that its Open has answered, and those that were appended
	durable int
	met     []string // the record whose Append the crash met, if there is one
}

// append: the record is in the list, or the disk is full, or a crash has met it. Whether the journal still works.
func (w *writer) append(r string) bool {
	w.t.Helper()
	err := w.j.Append([]byte(r))
	switch api.Code(err) {
	case api.OK:
		w.list = append(w.list, r)
	case api.ErrDown:
		w.met = []string{r}
	}
	return w.j.Err() == nil
}

func (w *writer) sync() bool {
	w.t.Helper()
	if w.j.Sync() == nil {
		w.durable = len(w.list)
	}
	return w.j.Err() == nil
}

// open: Open's records must be those that P12.9 lets in. Whether it has met no crash.
func (w *writer) open() bool {
	w.t.Helper()
	j, list, _, err := journal.Open(w.d, log)
	if err != nil {
		mustFail(w.t, err, "Open", err.(*api.Fault).At, api.ErrDown)
		return false
	}
	got := strs(list)
	n := len(got)
	prefix := w.durable <= n && n <= len(w.list) && slices.Equal(got, w.list[:n])
	more := len(w.met) == 1 && slices.Equal(got, slices.Concat(w.list, w.met))
	if !prefix && !more {
		w.t.Fatalf("P12.9: Open = %q, appended %q, %d durable, met %q", got, w.list, w.durable, w.met)
	}
	again := show(w.d)
	mustOpen(w.t, w.d, 0, got...)
	if show(w.d) != again {
		w.t.Fatal("P12.10: a second Open changes the disk")
	}
	w.j, w.list, w.durable, w.met = j, got, n, nil
	return true
}

// write: a fixed day's work, given up where the journal closes.
func (w *writer) write() {
	for i, r := range []string{"ab", "", "sync", "c", "dddd", "", "sync", "open", "e", "sync", "open", "ffffffffff", "g"} {
		ok := true
		switch r {
		case "sync":
			ok = w.sync()
		case "open":
			ok = w.open()
		default:
			ok = w.append(strings.Repeat(r, 1+i%3))
		}
		if !ok {
			return
		}
	}
}

// A crash in each call that changes the disk, with every number of bytes that may stay (never more than 63 are loose); then Open, more work, and a second crash.
func TestP12_9EveryCrash(t *testing.T) {
	for _, limit := range []int{wide, 60, 100, 120} {
		for n := 1; ; n++ {
			crashed := false
			for keep := 0; keep <= 70; keep++ {
				w := &writer{t: t, d: made(t, limit)}
				w.open()
				w.d.Arm(n, keep)
				w.write()
				crashed = w.d.Down()
				if loose := len(run(w.list[w.durable:]...)) + len(run(w.met...)); loose > 70 {
					t.Fatalf("%d bytes were loose: more than are tried", loose)
				}
				if !crashed {
					break
				}
				w.d.Up()
				w.open()
				w.append("behind")
				w.d.Crash(keep / 3)
				w.d.Up()
				w.open()
				w.append("once more")
				w.sync()
				w.open()
			}
			if !crashed {
				break
			}
		}
	}
}

// Long lives of one file: appends, syncs, new journals, crashes in any call, within Open too.
func TestP12_9Long(t *testing.T) {
	r := rand.New(rand.NewSource(51))
	crashes, opens, mets := 0, 0, 0
	for range 3000 {
		w := &writer{t: t, d: made(t, 40+r.Intn(400))}
		w.open()
		for range 60 {
			if w.d.Down() {
				crashes++
				if len(w.met) > 0 {
					mets++
				}
				w.d.Up()
				for r.Intn(3) == 0 {
					w.d.Arm(1+r.Intn(2), r.Intn(40))
					if w.open() {
						break
					}
					opens++
					w.d.Up()
				}
				w.d.Arm(0, 0)
				w.open()
			}
			switch r.Intn(9) {
			case 0, 1, 2, 3:
				w.append(strings.Repeat(string(rune('a'+r.Intn(26))), r.Intn(20)))
			case 4, 5:
				w.sync()
			case 6:
				w.open()
			case 7:
				w.d.Arm(1+r.Intn(5), r.Intn(60))
			case 8:
				if r.Intn(4) == 0 {
					w.d.Crash(r.Intn(60))
				}
			}
		}
	}
	if crashes < 1000 || opens < 100 || mets < 1000 {
		t.Fatalf("only %d crashes, %d within Open, %d within Append", crashes, opens, mets)
	}
}

// What survives is what stands on the disk: by the bytes that are left, all records, no fewer.
func TestP12_9Kept(t *testing.T) {
	list := []string{"durable", "", "loose", "looser"}
	loose := len(run(list...)) - len(run(list[:2]...))
	for keep := range loose + 20 {
		d := made(t, wide)
		j := mustOpen(t, d, 0)
		for i, r := range list {
			must(t, j.Append([]byte(r)))
			if i == 1 {
				must(t, j.Sync())
			}
		}
		d.Arm(1, keep)
		mustFail(t, j.Append([]byte("met")), "Append", 4, api.ErrDown)
		d.Up()
		left := slices.Concat(run(list...), framed(4, "met"))
		left = left[:min(len(left), len(run(list[:2]...))+keep)]
		want, good, _ := recordsOf(left)
		mustOpen(t, d, len(left)-good, want...)
	}
}
