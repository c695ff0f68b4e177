package annals_test

import (
	"fmt"
	"testing"

	"redraft/annals"
	"redraft/api"
)

// Commands of all kinds; some came into the order ahead of others.
func busy(t *testing.T) *scene {
	t.Helper()
	s := viewOf(t, ins(1, 1, 0, "abcdef"), hide(1, 2, 0, 2, 3, 5), ins(2, 1, 1, "xy"))
	for _, c := range []struct {
		i int
		o api.Op
	}{
		{1, hide(2, 2, 1, 3, 5, 6)}, {4, off(2, 3, api.ID{1, 2})}, {1, ins(3, 1, 4, "pq")}, {6, off(3, 2, api.ID{1, 1})}, {2, hide(3, 3, 0, 1, 2, 3)}, {8, on(3, 4, api.ID{1, 1})}, {7, off(1, 3, api.ID{2, 1})}, {0, ins(4, 1, 0, "é")},
	} {
		s.put(c.i, c.o)
	}
	return s
}

// The view behind k commands is a Replica of its own.
func TestP18_5IsAReplica(t *testing.T) {
	for _, s := range []*scene{busy(t), example(t)} {
		for k := range s.r.Len() + 1 {
			part := behind(t, s.r, k)
			text, e := annals.At(s.r, k)
			same(t, fmt.Sprintf("P18.5: At(%d)", k), text, e, part.Text(), api.OK)
		}
		agree(t, "a busy view", s.r, s.w)
	}
}

func TestP18_5At(t *testing.T) {
	a := api.ID{1, 1}
	s := viewOf(t, ins(1, 1, 0, "ab"), off(2, 1, a), off(2, 2, a), on(1, 2, a), hide(2, 3, 0, 1), hide(1, 3, 0, 2), off(1, 4, api.ID{2, 3}), off(1, 5, api.ID{1, 3}), on(3, 1, api.ID{2, 3}), on(3, 2, a), off(3, 3, a), off(3, 4, api.ID{2, 3}), on(3, 5, a))
	for k, want := range []string{"", "ab", "", "", "ab", "b", "", "", "ab", "b", "b", "", "", "ab"} {
		text, e := annals.At(s.r, k)
		same(t, fmt.Sprintf("P18.5: At(%d)", k), text, e, want, api.OK)
	}
	agree(t, "turned off and on again", s.r, s.w)
}

func TestP18_6Changes(t *testing.T) {
	a := api.ID{1, 1}
	for _, c := range []struct {
		what   string
		lo, hi int
		ops    []api.Op
		want   []api.Change
	}{
		{"none", 1, 1, []api.Op{ins(1, 1, 0, "ab"), hide(2, 1, 0, 1)}, []api.Change{both("ab")}},
		{"one insert", 1, 2, []api.Op{ins(1, 1, 0, "ab"), ins(2, 1, 1, "x")}, []api.Change{both("a"), come("x"), both("b")}},
		{"one insert, from nothing", 0, 1, []api.Op{ins(1, 1, 0, "ab")}, []api.Change{come("ab")}},
		{"one delete", 1, 2, []api.Op{ins(1, 1, 0, "abc"), hide(2, 1, 1, 2)}, []api.Change{both("a"), gone("b"), both("c")}},
		{"a delete of all", 1, 2, []api.Op{ins(1, 1, 0, "abc"), hide(2, 1, 0, 3)}, []api.Change{gone("abc")}},
		{"a delete of what is hidden", 2, 3, []api.Op{ins(1, 1, 0, "abc"), hide(2, 1, 1, 2), hide(3, 1, 1, 2)}, []api.Change{both("ac")}},
		{"a Status without effect", 1, 2, []api.Op{ins(1, 1, 0, "abc"), on(2, 1, a)}, []api.Change{both("abc")}},
		{"an insert off", 1, 2, []api.Op{ins(1, 1, 0, "abc"), off(2, 1, a)}, []api.Change{gone("abc")}},
		{"an insert on again", 2, 3, []api.Op{ins(1, 1, 0, "abc"), off(2, 1, a), on(2, 2, a)}, []api.Change{come("abc")}},
		{"off and on again", 1, 3, []api.Op{ins(1, 1, 0, "abc"), off(2, 1, a), on(2, 2, a)}, []api.Change{both("abc")}},
		{"come and gone within", 1, 3, []api.Op{ins(1, 1, 0, "ab"), ins(2, 1, 1, "x"), hide(2, 2, 1, 2)}, []api.Change{both("ab")}},
		{"put in ahead of lo, hidden there, seen behind hi", 2, 3, []api.Op{ins(1, 1, 0, "ab"), hide(2, 1, 0, 1), off(2, 2, api.ID{2, 1})}, []api.Change{come("a"), both("b")}},
		{"a new cell beside one that is seen again", 2, 4, []api.Op{ins(1, 1, 0, "ab"), hide(2, 1, 0, 1), off(2, 2, api.ID{2, 1}), ins(3, 1, 1, "x")}, []api.Change{come("ax"), both("b")}},
		{"gone, and others in their stead", 1, 3, []api.Op{ins(1, 1, 0, "abc"), hide(2, 1, 1, 2), ins(2, 2, 2, "B")}, []api.Change{both("a"), gone("b"), come("B"), both("c")}},
		{"cells that come only behind hi", 1, 2, []api.Op{ins(1, 1, 0, "abc"), hide(2, 1, 1, 2), ins(2, 2, 1, "new")}, []api.Change{both("a"), gone("b"), both("c")}},
		{"hidden in both", 2, 3, []api.Op{ins(1, 1, 0, "abc"), hide(2, 1, 1, 2), hide(2, 2, 0, 1)}, []api.Change{gone("a"), both("c")}},
		{"all of it", 0, 5, []api.Op{ins(1, 1, 0, "aé"), hide(2, 1, 0, 1), off(2, 2, a), ins(3, 1, 1, "€"), on(3, 2, a)}, []api.Change{come("€é")}},
	} {
		s := viewOf(t, c.ops...)
		list, e := annals.Changes(s.r, c.lo, c.hi)
		same(t, fmt.Sprintf("P18.6: %s: Changes(%d, %d)", c.what, c.lo, c.hi), list, e, c.want, api.OK)
		agree(t, c.what, s.r, s.w)
	}
}

// Those with Was make the text behind lo commands, those with Is the text behind hi.
func TestP18_6Texts(t *testing.T) {
	r := busy(t).r
	for lo := range r.Len() + 1 {
		for hi := lo; hi <= r.Len(); hi++ {
			list, e := annals.Changes(r, lo, hi)
			was, is := "", ""
			for i, c := range list {
				if c.Was {
					was += c.Text
				}
				if c.Is {
					is += c.Text
				}
				if !c.Was && !c.Is || c.Text == "" || i > 0 && c.Was == list[i-1].Was && c.Is == list[i-1].Is {
					t.Errorf("P18.6: Changes(%d, %d) has %v as its number %d", lo, hi, c, i)
				}
			}
			same(t, fmt.Sprintf("P18.6: Changes(%d, %d), with Was", lo, hi), was, e, behind(t, r, lo).Text(), api.OK)
			same(t, fmt.Sprintf("P18.6: Changes(%d, %d), with Is", lo, hi), is, e, behind(t, r, hi).Text(), api.OK)
		}
	}
}

func TestP18_9First(t *testing.T) {
	a := api.ID{1, 1}
	for _, c := range []struct {
		what, text string
		ops        []api.Op
		k          int
		e          api.Errno
	}{
		{"the empty text", "", []api.Op{ins(1, 1, 0, "ab"), hide(2, 1, 0, 2)}, 0, api.OK},
		{"a text that is there from the first command on", "ab", []api.Op{ins(1, 1, 0, "abc"), ins(2, 1, 3, "d")}, 1, api.OK},
		{"one that comes with the last command", "bd", []api.Op{ins(1, 1, 0, "abc"), ins(2, 1, 3, "d"), hide(2, 2, 2, 3)}, 3, api.OK},
		{"one that comes, goes and comes again", "ab", []api.Op{ins(1, 1, 0, "ab"), off(2, 1, a), on(2, 2, a), ins(2, 3, 2, "c")}, 3, api.OK},
		{"one that goes twice", "b", []api.Op{ins(1, 1, 0, "ab"), hide(2, 1, 1, 2), off(2, 2, api.ID{2, 1}), on(2, 3, api.ID{2, 1}), off(1, 2, api.ID{2, 1}), ins(3, 1, 0, "z")}, 5, api.OK},
		{"one that has gone", "b", []api.Op{ins(1, 1, 0, "ab"), hide(2, 1, 1, 2)}, 0, api.ErrUnknown},
		{"one that is made of other cells meanwhile", "b", []api.Op{ins(1, 1, 0, "ab"), ins(2, 1, 2, "b"), hide(2, 2, 1, 2)}, 1, api.OK},
		{"one that stands twice, and one of the two goes", "ab", []api.Op{ins(1, 1, 0, "ab"), ins(2, 1, 2, "ab"), off(1, 2, a)}, 1, api.OK},
		{"one parted by a cell that goes", "ab", []api.Op{ins(1, 1, 0, "ab"), ins(2, 1, 1, "x"), off(1, 2, api.ID{2, 1})}, 3, api.OK},
		{"a tombstone parts nothing", "ac", []api.Op{ins(1, 1, 0, "abc"), hide(1, 2, 1, 2)}, 2, api.OK},
		{"the whole text", "aé€", []api.Op{ins(1, 1, 0, "a€"), ins(2, 1, 1, "é")}, 2, api.OK},
		{"longer than the text", "aé€a", []api.Op{ins(1, 1, 0, "a€"), ins(2, 1, 1, "é")}, 0, api.ErrUnknown},
		{"never there", "z", []api.Op{ins(1, 1, 0, "abc")}, 0, api.ErrUnknown},
		{"other case", "A", []api.Op{ins(1, 1, 0, "abc")}, 0, api.ErrUnknown},
		{"an end of line", "a\nb", []api.Op{ins(1, 1, 0, "a\n"), ins(1, 2, 2, "b")}, 2, api.OK},
	} {
		s := viewOf(t, c.ops...)
		k, e := annals.First(s.r, c.text)
		same(t, "P18.9: "+c.what, k, e, c.k, c.e)
		agree(t, c.what, s.r, s.w)
	}
}

// A text may be longer than an insert may be.
func TestP18_9Long(t *testing.T) {
	s := viewOf(t)
	whole := ""
	for n := range 3 {
		text := fmt.Sprintf("%0256d", n)
		s.put(n, ins(1, n+1, 256*n, text))
		whole += text
	}
	k, e := annals.First(s.r, whole[1:])
	same(t, "P18.9: First of a long text", k, e, 3, api.OK)
	k, e = annals.First(s.r, whole[1:]+"x")
	same(t, "P18.9: First of a text that is too long", k, e, 0, api.ErrUnknown)
}
