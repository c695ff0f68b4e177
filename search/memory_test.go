package search_test

import (
	"reflect"
	"slices"
	"strings"
	"sync"
	"testing"
	"unsafe"

	"redraft/api"
	"redraft/search"
)

// overwrite: all of a list's memory, spare room too, and what an append writes.
func overwrite[T any](l []T, with T) {
	whole := l[:cap(l)]
	for i := range whole {
		whole[i] = with
	}
	_ = append(l, with, with)
}

// room: where a list, or a string, lies in memory.
type room struct{ lo, hi uintptr }

func roomOf[T any](l []T) room {
	var one T
	lo := uintptr(unsafe.Pointer(unsafe.SliceData(l)))
	return room{lo, lo + uintptr(cap(l))*unsafe.Sizeof(one)}
}

func bytesOf(s string) room {
	lo := uintptr(unsafe.Pointer(unsafe.StringData(s)))
	return room{lo, lo + uintptr(len(s))}
}

func (x room) meets(y room) bool {
	return x.lo < x.hi && y.lo < y.hi && x.lo < y.hi && y.lo < x.hi
}

// apart: none of these meet.
func apart(t *testing.T, what string, rooms []room) {
	t.Helper()
	for i, x := range rooms {
		for k, y := range rooms[:i] {
			if x.meets(y) {
				t.Errorf("P21.1: %s: what is answered shares memory (%d and %d)", what, k, i)
			}
		}
	}
}

func TestAnswersAreNewMemory(t *testing.T) {
	for _, c := range [][3]string{
		{"abc", "abc", "abc"}, {"[ab]+", "xaby abba", "<&>"}, {"z", "the text stays", "with"}, {"^", "\n\n", "a long text that goes in as it is"}, {".*", "one whole match", "&"}, {"a", "a", `\\`},
	} {
		source, text, with := strings.Clone(c[0]), strings.Clone(c[1]), strings.Clone(c[2])
		p := compiled(t, source)
		rooms := []room{bytesOf(source), bytesOf(text), bytesOf(with)}
		for range 2 {
			all, _ := p.All(text)
			plan, _ := p.Plan(text, with)
			now, _, _ := p.Replace(text, with)
			rooms = append(rooms, bytesOf(p.Print()), roomOf(all), roomOf(plan), bytesOf(now))
			for _, x := range plan {
				rooms = append(rooms, bytesOf(x.Ins))
			}
		}
		apart(t, c[0], rooms)
	}
}

// What is handed out is written over and appended to: the next answer is the same.
func TestAnswersAreWrittenOver(t *testing.T) {
	p := compiled(t, "(a|b)*[x-z]?")
	text, with := "abxcab", "<&>"
	all, _ := p.All(text)
	plan, _ := p.Plan(text, with)
	wantAll, wantPlan := slices.Clone(all), slices.Clone(plan)
	for range 3 {
		all, _ := p.All(text)
		overwrite(all, api.Range{Lo: -1, Hi: -2})
		plan, _ := p.Plan(text, with)
		overwrite(plan, api.Splice{At: -1, Del: -1, Ins: "?"})
		if p.Print() != "(a|b)*[x-z]?" {
			t.Errorf("P21.1: Print = %q", p.Print())
		}
	}
	all, _ = p.All(text)
	plan, _ = p.Plan(text, with)
	if !slices.Equal(all, wantAll) || !slices.Equal(plan, wantPlan) {
		t.Errorf("P21.1: All %v, Plan %v, want %v, %v", all, plan, wantAll, wantPlan)
	}
}

// A source whose bytes its owner writes over is no business of the pattern.
func TestSourcesAreNotKept(t *testing.T) {
	const source = "(abc|[k-m]+)x|[^y]z"
	bytes := []byte(source)
	p := compiled(t, unsafe.String(&bytes[0], len(bytes)))
	for i := range bytes {
		bytes[i] = '*'
	}
	if p.Print() != source {
		t.Errorf("P21.1: Print = %q, want %q", p.Print(), source)
	}
	if ok, _ := p.Match("abcx"); !ok {
		t.Errorf("P21.1: the pattern is another one")
	}
}

// The commands that a Run answers are written over: the desk's are what they were.
func TestCommandsAreWrittenOver(t *testing.T) {
	d := newDesk(t, wide, "a b a b a")
	ops, err := compiled(t, "[ab] ?").Run(d, "x&")
	if err != nil || len(ops) != 10 {
		t.Fatal(len(ops), err)
	}
	var rooms []room
	was := lookAt(d)
	for _, o := range ops {
		rooms = append(rooms, roomOf(o.Ranges))
	}
	apart(t, "Run", append(rooms, roomOf(ops)))
	for _, o := range ops {
		overwrite(o.Ranges, api.Range{Lo: -5, Hi: -4})
	}
	overwrite(ops, api.Op{})
	if !reflect.DeepEqual(lookAt(d), was) {
		t.Errorf("P21.1: the desk is changed by what is written into a Run's answer")
	}
}

// A pattern answers the same, whatever it was asked before, and by many at a time.
func TestPatternsDoNotChange(t *testing.T) {
	p := compiled(t, `(a|b)+\b|[^a]$|^`)
	texts := textsOf("ab \n", 4)
	ask := func(text string) string {
		ok, e := p.Match(text)
		one, e2 := p.Find(text, len(text)/2)
		all, e3 := p.All(text)
		now, n, e4 := p.Replace(text, "<&>")
		plan, e5 := p.Plan(text, "&x")
		return pack(ok, e, one, e2, all, e3, now, n, e4, plan, e5, p.Empty(), p.Print())
	}
	want := map[string]string{}
	for _, text := range texts {
		want[text] = ask(text)
	}
	var group sync.WaitGroup
	for k := range 4 {
		group.Add(1)
		go func() {
			defer group.Done()
			for i := range texts {
				text := texts[(i*(2*k+1)+k)%len(texts)]
				p.All("\xff" + text)
				p.Find(text, -1)
				if got := ask(text); got != want[text] {
					t.Errorf("P21.1: on %q %s, at first %s", text, got, want[text])
				}
			}
		}()
	}
	group.Wait()
}

// Two patterns of one source have nothing to do with one another.
func TestPatternsApart(t *testing.T) {
	var list []*search.Pattern
	sources := []string{"a", "b", "[a-c]", "a*", strings.Repeat("x", 256)}
	for _, source := range slices.Concat(sources, sources) {
		list = append(list, compiled(t, source))
	}
	for i, p := range list {
		if p.Print() != sources[i%5] {
			t.Errorf("P21.1: Print = %q, want %q", p.Print(), sources[i%5])
		}
	}
}
