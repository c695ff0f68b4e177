package disk_test

import (
	"math"
	"strings"
	"testing"

	"redraft/api"
)

// refused: calls that are no changing calls: refused ones, and such as only look, turn or stand beside.
func refused() []call {
	return []call{put("NO", "x"), put("", "x"), sync("NO"), sync("none"), cut("NO", 0), cut("none", 0), cut("a", -1), cut("a", 99), remove("NO"), remove("none"), read("a", 0, 1), read("a", 0, 99), size("a"), size("none"), turn("a", 0, 0), turn("a", 99, 0), arm(-1, 0), arm(5, -1), crash(-1)}
}

// Each changing call as the one that crashes, as the first, second and third, with calls that aren't counted ahead of each.
func TestP11_10EachCall(t *testing.T) {
	one := map[string]call{"Append": put("a", "XY"), "Append to a new file": put("new", "XY"), "Append of nothing": put("new", ""), "Sync": sync("a"), "Cut": cut("a", 1), "Cut to nothing": cut("a", 0), "Remove": remove("a")}
	for name, c := range one {
		for steps := 1; steps <= 4; steps++ {
			for keep := range 5 {
				for _, extra := range []bool{false, true} {
					x := newPair(t, 99)
					x.all(put("a", "ab"), sync("a"), put("a", "cd"), put("b", "ef"), put("e", ""), arm(steps, keep))
					for i := range steps {
						if extra {
							x.all(refused()...)
						}
						if i < steps-1 {
							x.do(sync("e"))
						}
					}
					if x.d.Down() {
						t.Fatalf("P11.10: %s: down ahead of call %d", name, steps)
					}
					if got := x.do(c); got != (answer{e: api.ErrDown}) || !x.d.Down() {
						t.Fatalf("P11.10: %s as number %d = %v, down %v", name, steps, got, x.d.Down())
					}
					x.all(put("a", "x"), up(), put("a", "x"), sync("a"), cut("a", 1), remove("a"))
				}
			}
		}
	}
}

// What is left behind the call that crashes: written out for each call.
func TestP11_10Left(t *testing.T) {
	for _, row := range []struct {
		c    call
		keep int
		want string
	}{
		{put("a", "XY"), 0, `a:"ab"/2`},
		{put("a", "XY"), 1, `a:"abc"/3 b:"e"/1`},
		{put("a", "XY"), 3, `a:"abcdX"/5 b:"ef"/2`},
		{put("a", "XY"), 4, `a:"abcdXY"/6 b:"ef"/2`},
		{put("a", "XY"), math.MaxInt, `a:"abcdXY"/6 b:"ef"/2`},
		{put("a", "XYZZZZ"), 99, `a:"abcdXYZZ"/8 b:"ef"/2`},
		{put("n", "XY"), 0, `a:"ab"/2`},
		{put("n", "XY"), 1, `a:"abc"/3 b:"e"/1 n:"X"/1`},
		{put("n", "XYZZZZ"), 99, `a:"abcd"/4 b:"ef"/2 n:"XYZZ"/4`},
		{put("n", ""), 99, `a:"abcd"/4 b:"ef"/2`},
		{sync("a"), 0, `a:"ab"/2`},
		{sync("a"), 1, `a:"abc"/3 b:"e"/1`},
		{sync("b"), 0, `a:"ab"/2`},
		{cut("a", 0), 0, `a:"ab"/2`},
		{cut("a", 3), 2, `a:"abcd"/4 b:"ef"/2`},
		{remove("a"), 0, `a:"ab"/2`},
		{remove("b"), 99, `a:"abcd"/4 b:"ef"/2`},
	} {
		x := newPair(t, 10)
		x.all(put("a", "ab"), sync("a"), put("a", "cd"), put("b", "ef"), put("e", ""), arm(1, row.keep))
		if got := x.do(row.c); got != (answer{e: api.ErrDown}) {
			t.Fatalf("P11.10: %v = %v, want ErrDown alone", row.c, got)
		}
		if got := show(x.d.Files()); got != row.want {
			t.Fatalf("P11.10: %v, keep %d: files %s, want %s", row.c, row.keep, got, row.want)
		}
	}
}

// A later Arm takes the place of an earlier one, and counts anew; Arm with 0, a crash and Up end it.
func TestP11_10ArmAgain(t *testing.T) {
	for first := 1; first < 5; first++ {
		for between := range first {
			for second := range 5 {
				x := newPair(t, 99)
				x.all(put("a", "abc"), arm(first, 0))
				for range between {
					x.do(sync("a"))
				}
				x.all(put("b", "xyz")) // may be the last step of the first Arm
				if x.d.Down() {
					continue
				}
				x.do(arm(second, 2))
				for i := 1; i <= 6; i++ {
					if got, want := x.do(put("b", "w")).e == api.ErrDown, second > 0 && i >= second; got != want {
						t.Fatalf("P11.10: Arm(%d), %d calls, Arm(%d): call %d crashes: %v", first, between+1, second, i, got)
					}
				}
			}
		}
	}
	x := newPair(t, 9)
	x.all(put("a", "abc"), arm(1, 1), arm(0, -7), sync("a"), put("a", "de"), arm(1, 1), arm(1, 0), sync("a"))
	if got := show(x.d.Files()); got != `a:"abc"/3` {
		t.Fatalf("P11.10: files %s: the later Arm's keep counts", got)
	}
	x = newPair(t, 9)
	x.all(put("a", "abc"), arm(1, 1), arm(-1, 0), arm(2, -1), sync("a"))
	if got := show(x.d.Files()); got != `a:"a"/1` || !x.d.Down() {
		t.Fatalf("P11.10: a refused Arm has changed the earlier one: files %s, down %v", got, x.d.Down())
	}
	x = newPair(t, 9)
	x.all(put("a", "abc"), arm(1, 1), crash(2), up(), put("a", "z"), sync("a"), size("a"))
	if x.d.Down() {
		t.Fatalf("P11.11: still armed behind a crash")
	}
}

// As many steps as a number can tell: none of these calls is the one.
func TestP11_10Far(t *testing.T) {
	for _, steps := range []int{50, 1 << 31, 1 << 32, math.MaxInt - 1, math.MaxInt} {
		x := newPair(t, 99)
		x.do(arm(steps, math.MaxInt))
		for range 48 {
			x.do(put("a", "x"))
		}
		if x.d.Down() {
			t.Fatalf("P11.10: Arm(%d) crashes early", steps)
		}
	}
}

// Crashes that keep nothing, some and all, of several files, one behind another.
func TestP11_11Crash(t *testing.T) {
	for _, keeps := range [][]int{{0, 0}, {1, 0}, {0, 1}, {1, 1}, {2, 1}, {3, 2}, {4, 4}, {5, 0}, {99, 99}, {math.MaxInt, math.MaxInt}} {
		x := newPair(t, 99)
		for i, n := range []string{"a", "b", "c", "d", "e"} {
			x.all(put(n, "01234"[:i]), sync(n), put(n, "vwxyz"[:4-i]))
		}
		for _, k := range keeps {
			x.do(crash(k))
			for _, f := range x.d.Files() {
				if f.Synced != len(f.Bytes) || len(f.Bytes) == 0 {
					t.Fatalf("P11.11: behind a crash: %s", show(x.d.Files()))
				}
			}
			x.all(crash(0), up(), put("a", "12"), put("z", ""), put("b", "3"))
		}
	}
	x := newPair(t, 9)
	x.all(crash(-1), crash(0), crash(0), crash(-1), up(), crash(3))
}

// Files without bytes do not come through a crash, whether synced, cut, loaded or never written.
func TestP11_11Empty(t *testing.T) {
	for _, keep := range []int{0, 1, 99} {
		x := newPair(t, 9)
		x.all(put("a", ""), put("b", ""), sync("b"), put("c", "xy"), sync("c"), cut("c", 0), put("d", "z"), sync("d"), put("e", "zzzzzzzzz"))
		x.do(crash(keep))
		for _, f := range x.d.Files() {
			if strings.Contains("abc", f.Name) {
				t.Fatalf("P11.11: a file without bytes is left: %s", show(x.d.Files()))
			}
		}
		x.all(up(), size("a"), size("b"), size("c"), put("a", ""))
	}
}

func TestP11_12Up(t *testing.T) {
	x := newPair(t, 9)
	x.all(up(), put("a", "abc"), up(), arm(1, 0), up(), sync("a"), put("a", "d"), crash(9), up(), read("a", 0, 4), up(), put("a", "e"))
	if got := show(x.d.Files()); got != `a:"abcde"/4` || x.d.Down() {
		t.Fatalf("P11.12: files %s, down %v", got, x.d.Down())
	}
	x.all(arm(3, 0), sync("a"), up(), sync("a"), sync("a"), sync("a"))
	if x.d.Down() {
		t.Fatalf("P11.12: a disk that runs is still armed behind Up")
	}
}
