package disk_test

import (
	"testing"

	"redraft/api"
)

// The chapter's table; each row goes on from the one above it.
func TestExamples(t *testing.T) {
	d := made(t, 10)
	files := ""
	for i, row := range []struct {
		c     call
		want  answer
		files string // "=": as ahead of it
	}{
		{sync("j"), answer{e: api.ErrFile}, "="},
		{put("j", "abcd"), answer{n: 4}, `j:"abcd"/0`},
		{sync("j"), answer{}, `j:"abcd"/4`},
		{put("j", "efg"), answer{n: 3}, `j:"abcdefg"/4`},
		{put("J", "x"), answer{e: api.ErrName}, "="},
		{put("k", "123456"), answer{n: 3, e: api.ErrFull}, `j:"abcdefg"/4 k:"123"/0`},
		{read("j", 2, 6), answer{e: api.ErrPlace}, "="},
		{read("j", 2, 5), answer{text: "cdefg"}, "="},
		{crash(1), answer{}, `j:"abcde"/5 k:"1"/1`},
		{sync("j"), answer{e: api.ErrDown}, "="},
		{up(), answer{}, "="},
		{arm(2, 0), answer{}, "="},
		{cut("j", 9), answer{e: api.ErrPlace}, "="},
		{cut("j", 2), answer{}, `j:"ab"/2 k:"1"/1`},
		{put("j", "xyz"), answer{e: api.ErrDown}, `j:"ab"/2 k:"1"/1`},
		{up(), answer{}, "="},
		{remove("k"), answer{}, `j:"ab"/2`},
		{put("n", ""), answer{}, `j:"ab"/2 n:""/0`},
		{crash(5), answer{}, `j:"ab"/2`},
		{crash(5), answer{e: api.ErrDown}, "="},
	} {
		if got := ask(d, row.c); got != row.want {
			t.Fatalf("row %d: %v = %v, want %v", i, row.c, got, row.want)
		}
		if row.files != "=" {
			files = row.files
		}
		if got := show(d.Files()); got != files {
			t.Fatalf("row %d: behind %v: files %s, want %s", i, row.c, got, files)
		}
		if i == 5 && d.Used() != 10 {
			t.Fatalf("row %d: Used %d, want 10", i, d.Used())
		}
		if down := i == 8 || i == 9 || i == 14 || i >= 18; d.Down() != down {
			t.Fatalf("row %d: Down %v, want %v", i, d.Down(), down)
		}
	}
}
