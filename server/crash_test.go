package server_test

import (
	"fmt"
	"math/rand"
	"slices"
	"strings"
	"testing"

	"redraft/api"
	"redraft/disk"
	"redraft/msg"
	"redraft/server"
)

// author: a client as far as it matters here: its next command, which it sends with one and the same base until it is told of it.
type author struct {
	number  int // of that command
	pending []byte
}

// life: servers on one disk, one behind the other, and what has been seen of them.
type life struct {
	t       *testing.T
	d       *disk.Disk
	s       *server.Server
	log     []string       // of the server that ran last, when it ran last
	durable int            // of it
	met     string         // the id of the command whose Append the crash met, "" if there is none
	told    map[int]string // by revision: what was ever told of it, a command or an id
	authors [4]author
}

func newLife(t *testing.T, limit int) *life {
	l := &life{t: t, d: made(t, limit), told: map[int]string{}}
	for c := 1; c <= 3; c++ {
		l.authors[c].number = 1
	}
	return l
}

// idOf: that of a command's line.
func idOf(line string) string {
	id, _, _ := strings.Cut(line, " ")
	return id
}

// look: P14.8 and P14.10 of the running server, behind every call.
func (l *life) look() {
	l.t.Helper()
	now := logOf(l.t, l.s)
	if len(now) < len(l.log) || !slices.Equal(now[:len(l.log)], l.log) || l.s.Durable() < l.durable {
		l.t.Fatalf("P14.10: the log was %q, %d durable, and is %q, %d durable", l.log, l.durable, now, l.s.Durable())
	}
	l.log, l.durable = now, l.s.Durable()
	l.numbered()
}

// numbered: P14.8.
func (l *life) numbered() {
	l.t.Helper()
	next := map[int]int{}
	for _, s := range l.log {
		id := parse(s).ID
		next[id[0]]++
		if id[1] != next[id[0]] {
			l.t.Fatalf("P14.8: %v stands in %q", id, l.log)
		}
	}
}

// boot: P14.9 and P14.10 of the server that comes behind the one that ran last. Whether it has met no crash.
func (l *life) boot() bool {
	l.t.Helper()
	s, err := server.Boot(l.d, room)
	if err != nil {
		if api.Code(err) != api.ErrDown {
			l.t.Fatalf("P7: Boot behind a crash: %v", err)
		}
		return false
	}
	now := logOf(l.t, s)
	n := len(now)
	prefix := l.durable <= n && n <= len(l.log) && slices.Equal(now, l.log[:n])
	more := l.met != "" && n == len(l.log)+1 && slices.Equal(now[:n-1], l.log) && idOf(now[n-1]) == l.met
	if !prefix && !more {
		l.t.Fatalf("P14.10: booted with %q; the log was %q, %d durable, met %q", now, l.log, l.durable, l.met)
	}
	if s.Durable() != n || len(s.Known()) > 0 {
		l.t.Fatalf("P14.2: Durable %d of %d, Known %v", s.Durable(), n, s.Known())
	}
	for r, what := range l.told {
		if r > n || now[r-1] != what && idOf(now[r-1]) != what {
			l.t.Fatalf("P14.9: revision %d was told as %q; the log is %q", r, what, now)
		}
	}
	before := show(l.d)
	if again := logOf(l.t, boot(l.t, l.d, room)); !slices.Equal(again, now) || show(l.d) != before {
		l.t.Fatalf("P14.10: booted twice: %q, then %q", now, again)
	}
	l.s, l.log, l.durable, l.met = s, now, n, ""
	l.numbered()
	return true
}

// next: the client's next command, made with that base, unless one is on its way.
func (l *life) next(c, base int, make func(n, cells int) string) {
	a := &l.authors[c]
	if a.pending != nil {
		return
	}
	view := viewOf(l.t, parseAll(l.log[:base]))
	a.pending = sub(c, base, fmt.Sprintf("%d.%d %s", c, a.number, make(a.number, view.Total())))
}

func parseAll(lines []string) []api.Op {
	var out []api.Op
	for _, s := range lines {
		out = append(out, parse(s))
	}
	return out
}

// send: what the client has to send. Whether the server still runs.
func (l *life) send(c int) bool {
	l.t.Helper()
	a := l.authors[c]
	if a.pending == nil {
		return true
	}
	err := l.s.Handle(a.pending)
	switch api.Code(err) {
	case api.OK, api.ErrFull:
	case api.ErrStopped:
		if l.d.Down() {
			l.met = fmt.Sprintf("%d.%d", c, a.number)
		}
	default:
		m, _ := msg.Unseal(a.pending)
		l.t.Fatalf("DOC.md, limits: a right command is refused: %v at %d: %v", line(m.Op), m.Rev, err)
	}
	l.look()
	return api.Code(err) != api.ErrStopped
}

// tick: what is told is noted, and comes to the clients. Whether the server still runs.
func (l *life) tick() bool {
	l.t.Helper()
	ps, err := l.s.Tick()
	if err != nil {
		mustFail(l.t, err, "Tick", 0, api.ErrStopped)
		if len(ps) > 0 {
			l.t.Fatal("P14.9: a Tick that has failed tells something")
		}
	}
	l.look()
	for _, p := range ps {
		m, e := msg.Unseal(p.Bytes)
		if e != api.OK {
			l.t.Fatal(e)
		}
		l.hear(m)
	}
	return err == nil
}

// hear: P14.11 of one message.
func (l *life) hear(m api.Msg) {
	l.t.Helper()
	what := fmt.Sprintf("%d.%d", m.Client, m.Seq)
	if m.Code == api.Cast {
		what = line(m.Op)
	}
	if m.Rev > l.durable {
		l.t.Fatalf("P14.9: revision %d is told, %d are durable", m.Rev, l.durable)
	}
	if s := l.log[m.Rev-1]; s != what && (m.Code == api.Cast || idOf(s) != what) {
		l.t.Fatalf("P14.11: revision %d is told as %q, and is %q", m.Rev, what, s)
	}
	l.told[m.Rev] = what
	a := &l.authors[m.Client]
	if id := parse(l.log[m.Rev-1]).ID; id == (api.ID{m.Client, a.number}) {
		*a = author{number: a.number + 1}
	}
}

// base: the least and the greatest base that the client may take.
func (l *life) base(c int) (lo, hi int) {
	for k, s := range l.log {
		if parse(s).ID[0] == c {
			lo = k + 1
		}
	}
	return lo, l.durable
}

// work: a fixed day's work, given up where the server stops.
func (l *life) work() {
	for i, c := range []int{1, 2, 0, 3, 3, 1, 0, 0, 2, 1, 3, 0, 2, 0} {
		ok := true
		if c == 0 {
			ok = l.tick()
		} else {
			if lo, hi := l.base(c); lo <= hi {
				l.next(c, lo, func(n, cells int) string {
					if cells > 1 && n == 2 {
						return "hide 0-1"
					}
					return fmt.Sprintf("ins 0 %q", strings.Repeat("x", i+1))
				})
			}
			ok = l.send(c)
		}
		if !ok {
			return
		}
	}
}

// end: all send until nothing is pending any more: each command stands in the log once.
func (l *life) end() {
	l.t.Helper()
	for range 3 {
		for c := 1; c <= 3; c++ {
			l.send(c)
		}
		l.tick()
	}
	for c := 1; c <= 3; c++ {
		if l.authors[c].pending != nil {
			l.t.Fatalf("P14.8: client %d was never told of its command %d; the log is %q", c, l.authors[c].number, l.log)
		}
		if got := l.s.Last(c); got != l.authors[c].number-1 {
			l.t.Fatalf("P14.8: client %d has made %d commands, Last is %d", c, l.authors[c].number-1, got)
		}
	}
}

// A crash in each call that changes the disk, with every number of bytes that may stay; then Boot, crashed too, the work goes on, and everything is there once.
func TestP14_10EveryCrash(t *testing.T) {
	const most = 150 // more bytes are never loose
	for n := 1; ; n++ {
		crashed := false
		for keep := 0; keep <= most; keep++ {
			l := newLife(t, wide)
			l.boot()
			l.d.Arm(n, keep)
			l.work()
			if crashed = l.d.Down(); !crashed {
				break
			}
			l.d.Up()
			all := len(l.log)
			if l.met != "" {
				all++
			}
			for steps := 2; steps >= 1; steps-- {
				l.d.Arm(steps, keep/2)
				if l.boot() {
					break
				}
				l.d.Up()
			}
			l.d.Arm(0, 0)
			l.boot()
			if keep == most && len(l.log) != all {
				t.Fatalf("%d commands of %d are left where %d bytes may stay: more must be tried", len(l.log), all, most)
			}
			l.work()
			l.end()
		}
		if !crashed {
			if n < 10 {
				t.Fatalf("only %d calls change the disk", n)
			}
			return
		}
	}
}

// Commands sent in every order and again and again, with ticks, crashes that keep all or nothing, and new servers between: each stands in the log at most once, and in its turn.
func TestP14_8EveryOrder(t *testing.T) {
	frames := [][]byte{sub(1, 0, `1.1 ins 0 "a"`), sub(1, 1, `1.2 ins 0 "b"`), sub(2, 0, `2.1 ins 0 "c"`), sub(2, 2, `2.2 hide 0-1`)}
	const calls = 7
	longest := 0
	for script := range calls * calls * calls * calls * calls * calls {
		l := newLife(t, wide)
		l.s = boot(t, l.d, room)
		for n := script; n > 0; n /= calls {
			switch i := n % calls; i {
			case 4:
				_, err := l.s.Tick()
				must(t, err)
			case 5, 6:
				l.d.Crash(1000 * (i - 5))
				l.d.Up()
				l.s = boot(t, l.d, room)
			default:
				l.s.Handle(frames[i])
			}
			l.log = logOf(t, l.s)
			l.numbered()
		}
		longest = max(longest, len(l.log))
	}
	if longest != 4 {
		t.Fatalf("the longest log has %d commands", longest)
	}
}

// What survives of an Append that crashes is decided by its bytes: none, some, all of them.
func TestP14_10Survives(t *testing.T) {
	first, second := `1.1 ins 0 "a"`, `2.1 ins 1 "b"`
	size := len(fileOf(t, allCoded(first)...))
	both := len(fileOf(t, allCoded(first, second)...))
	for keep := 0; keep <= both+5; keep++ {
		x := pairAt(t, handle(sub(1, 0, first)), arm(1, keep))
		x.is(handle(sub(2, 0, `2.1 ins 0 "b"`)), api.ErrStopped)
		x.holds(1, 0, "")
		x.knows(1)
		x.all(up(), booted())
		switch {
		case keep < size:
			x.holds(0, 0, "")
		case keep < both:
			x.holds(1, 1, "a")
		default:
			x.holds(2, 2, "ab")
		}
		// They come again, and stand there once.
		x.is(handle(sub(1, 0, first)).on(1), api.OK)
		x.is(handle(sub(2, 0, `2.1 ins 0 "b"`)).on(1), api.OK)
		x.is(tick().on(1), api.OK)
		x.holds(2, 2, "ab")
	}
}

// Long lives: clients with any bases, ticks, Hellos, crashes in any call and between them, full disks, Boots that crash.
func TestP14_9Long(t *testing.T) {
	r := rand.New(rand.NewSource(61))
	crashes, boots, mets, most := 0, 0, 0, 0
	for range 500 {
		limit := wide
		if r.Intn(4) == 0 {
			limit = 200 + r.Intn(300)
		}
		l := newLife(t, limit)
		l.boot()
		for range 70 {
			stopped := l.s.Handle(hello(1+r.Intn(3), r.Intn(l.durable+1))) != nil
			if stopped || l.d.Down() {
				crashes++
				if l.met != "" {
					mets++
				}
				l.d.Up()
				for r.Intn(3) == 0 {
					l.d.Arm(1+r.Intn(2), r.Intn(60))
					if l.boot() {
						break
					}
					boots++
					l.d.Up()
				}
				l.d.Arm(0, 0)
				l.boot()
			}
			l.any(r)
		}
		most = max(most, len(l.log))
		if limit == wide {
			l.d.Up()
			l.boot()
			l.end()
		}
	}
	if crashes < 500 || boots < 50 || mets < 100 || most < 15 {
		t.Fatalf("only %d crashes, %d in Boot, %d in an Append; the longest log has %d", crashes, boots, mets, most)
	}
}

// any: a chance step of a life.
func (l *life) any(r *rand.Rand) {
	switch r.Intn(12) {
	case 0, 1, 2:
		l.tick()
	case 3:
		l.d.Arm(1+r.Intn(5), r.Intn(80))
	case 4:
		if r.Intn(5) == 0 {
			l.d.Crash(r.Intn(80))
		}
	default:
		c := 1 + r.Intn(3)
		if lo, hi := l.base(c); lo <= hi && l.authors[c].number < 20 {
			l.next(c, lo+r.Intn(hi-lo+1), func(_, cells int) string {
				if cells > 0 && r.Intn(3) == 0 {
					at := r.Intn(cells)
					return fmt.Sprintf("hide %d-%d", at, at+1+r.Intn(cells-at))
				}
				return fmt.Sprintf("ins %d %q", r.Intn(cells+1), strings.Repeat("y", 1+r.Intn(4)))
			})
		}
		l.send(c)
	}
}
