package annals_test

import (
	"fmt"
	"iter"
	"slices"
	"testing"

	"redraft/annals"
	"redraft/api"
	"redraft/desk"
)

// given: what a sequence gives.
func given(all iter.Seq2[int, string]) []string {
	var out []string
	for k, text := range all {
		out = append(out, fmt.Sprintf("%d %q", k, text))
	}
	return out
}

// expected: what a replay must give of these texts.
func expected(texts []string) []string {
	var out []string
	for k, text := range texts {
		out = append(out, fmt.Sprintf("%d %q", k, text))
	}
	return out
}

func TestP18_8Again(t *testing.T) {
	all := annals.Replay(example(t).r)
	want := expected(exampleTexts())
	for range 3 {
		same(t, "P18.8: Replay, gone through again", given(all), api.OK, want, api.OK)
	}
}

func TestP18_8Left(t *testing.T) {
	all := annals.Replay(example(t).r)
	want := expected(exampleTexts())
	for stop := range want {
		n := 0
		for range all {
			n++
			if n == stop+1 {
				break
			}
		}
		if n != stop+1 {
			t.Errorf("P18.8: left behind %d, %d were given", stop+1, n)
		}
		// A function that says no is not called again.
		calls := 0
		all(func(k int, _ string) bool {
			calls++
			return k < stop
		})
		if calls != stop+1 {
			t.Errorf("P18.8: said no at %d, called %d times", stop, calls)
		}
		same(t, "P18.8: Replay behind one that was left", given(all), api.OK, want, api.OK)
	}
}

func TestP18_8Inside(t *testing.T) {
	all := annals.Replay(busy(t).r)
	want := given(all)
	var outer []string
	for k, text := range all {
		outer = append(outer, fmt.Sprintf("%d %q", k, text))
		var inner []string
		for j, text := range all {
			inner = append(inner, fmt.Sprintf("%d %q", j, text))
			if j == k {
				same(t, "P18.8: Replay two deep inside itself", given(all), api.OK, want, api.OK)
			}
		}
		same(t, "P18.8: Replay inside itself", inner, api.OK, want, api.OK)
	}
	same(t, "P18.8: Replay around itself", outer, api.OK, want, api.OK)
}

// Two that are gone through by turns don't disturb one another.
func TestP18_8Pulled(t *testing.T) {
	all := annals.Replay(example(t).r)
	first, stopFirst := iter.Pull2(all)
	second, stopSecond := iter.Pull2(all)
	defer stopFirst()
	defer stopSecond()
	first()
	first()
	for k, want := range exampleTexts() {
		if got, text, ok := second(); got != k || text != want || !ok {
			t.Errorf("P18.8: the second gives %d, %q, %v", got, text, ok)
		}
		if got, text, ok := first(); ok && (got != k+2 || text != exampleTexts()[got]) || ok != (k < 4) {
			t.Errorf("P18.8: the first gives %d, %q, %v", got, text, ok)
		}
	}
	if _, _, ok := second(); ok {
		t.Errorf("P18.8: there is more than all")
	}
}

// What is put into the view later changes nothing: at its end, in its midst, behind the call, within the loop.
func TestP18_8PutLater(t *testing.T) {
	for name, late := range map[string]func(*scene, int){
		"an insert at the end":      func(s *scene, n int) { s.put(len(s.w), ins(3, n, 0, "late")) },
		"an insert at the start":    func(s *scene, n int) { s.put(0, ins(3, n, 0, "late")) },
		"an insert in the midst":    func(s *scene, n int) { s.put(2, ins(3, n, 1, "late")) },
		"a Hide of all":             func(s *scene, n int) { s.put(len(s.w), hide(3, n, 0, s.r.Total())) },
		"an early Hide":             func(s *scene, n int) { s.put(1, hide(3, n, 0, 3)) },
		"an insert off":             func(s *scene, n int) { s.put(len(s.w), off(3, n, api.ID{1, 1})) },
		"a Hide on again":           func(s *scene, n int) { s.put(len(s.w), on(3, n, api.ID{1, 2})) },
		"a Status ahead of another": func(s *scene, n int) { s.put(2, off(3, n, api.ID{1, 2})) },
	} {
		s := example(t)
		all := annals.Replay(s.r)
		n := 0
		more := func() {
			n++
			late(s, n)
		}
		more()
		want := expected(exampleTexts())
		same(t, "P18.8: "+name+", behind the call", given(all), api.OK, want, api.OK)
		var got []string
		for k, text := range all {
			got = append(got, fmt.Sprintf("%d %q", k, text))
			more()
		}
		same(t, "P18.8: "+name+", within the loop", got, api.OK, want, api.OK)
		same(t, "P18.8: "+name+", gone through again", given(all), api.OK, want, api.OK)
		agree(t, name, s.r, s.w)
	}
}

// A Replay within whose loop the view is asked, and another one is made.
func TestP18_8AskedWithin(t *testing.T) {
	s := example(t)
	k := 0
	for n, text := range annals.Replay(s.r) {
		at, e := annals.At(s.r, n)
		same(t, "P18.8: At within the loop", at, e, text, api.OK)
		if n == k {
			s.put(0, ins(3, k+1, 0, "z"))
			agree(t, "within the loop", s.r, s.w)
			break
		}
	}
	want := []string{"", "z"}
	for _, text := range exampleTexts()[1:] {
		want = append(want, "z"+text)
	}
	same(t, "P18.8: a Replay of the view as it is now", given(annals.Replay(s.r)), api.OK, expected(want), api.OK)
}

// Two replays of one view know nothing of one another, nor do those of two views.
func TestP18_8Two(t *testing.T) {
	s := viewOf(t, ins(1, 1, 0, "ab"))
	first := annals.Replay(s.r)
	s.put(1, hide(1, 2, 0, 1))
	second := annals.Replay(s.r)
	other := annals.Replay(desk.NewReplica())
	for range 2 {
		same(t, "P18.8: the first", given(first), api.OK, expected([]string{"", "ab"}), api.OK)
		same(t, "P18.8: the second", given(second), api.OK, expected([]string{"", "ab", "b"}), api.OK)
		same(t, "P18.8: another view's", given(other), api.OK, expected([]string{""}), api.OK)
	}
}

// Texts that were given stay as they are while the sequence goes on.
func TestP18_8TextsStay(t *testing.T) {
	r := busy(t).r
	var texts, copies []string
	for _, text := range annals.Replay(r) {
		texts = append(texts, text)
		copies = append(copies, string([]byte(text)))
	}
	if !slices.Equal(texts, copies) {
		t.Errorf("P18.8: texts have changed: %q, want %q", texts, copies)
	}
}
