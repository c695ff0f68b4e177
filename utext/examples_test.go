package utext_test

import (
	"testing"
	"unsafe"

	"redraft/api"
	"redraft/utext"
)

// pack: a call's answers as one value, so that the chapter's examples stand here as its table has them.
func pack(v ...any) []any { return v }

func same(a, b []any) bool {
	if len(a) != len(b) {
		return false
	}
	for i := range a {
		if a[i] != b[i] {
			return false
		}
	}
	return true
}

func TestExamplesOfTheChapter(t *testing.T) {
	for i, c := range []struct{ got, want []any }{
		{pack(utext.Check("")), pack(0, 0, api.OK)},
		{pack(utext.Check("a\u00e9\u20ac\U0001f600")), pack(4, 0, api.OK)},
		{pack(utext.Check("ab\xc3")), pack(0, 2, api.ErrUtf8)},
		{pack(utext.Check("a\xed\xa0\x80")), pack(0, 1, api.ErrUtf8)},
		{pack(utext.Check("a\x00\xff")), pack(0, 1, api.ErrRune)},
		{pack(utext.Check("a\xff\x00")), pack(0, 1, api.ErrUtf8)},
		{pack(utext.Check("\xef\xbf\xbd")), pack(1, 0, api.OK)},
		{pack(utext.Check("x\xef\xbb\xbf")), pack(0, 1, api.ErrRune)},
		{pack(utext.Check("\xf4\x8f\xbf\xbe")), pack(0, 0, api.ErrRune)},
		{pack(utext.Check("\xf4\x90\x80\x80")), pack(0, 0, api.ErrUtf8)},
		{pack(utext.Check("\xc2\x85")), pack(0, 0, api.ErrRune)},
		{pack(utext.Place("a\u00e9z", 2)), pack(3, api.OK)},
		{pack(utext.Place("a\u00e9z", 3)), pack(4, api.OK)},
		{pack(utext.Place("a\u00e9z", 4)), pack(0, api.ErrPlace)},
		{pack(utext.Index("a\u00e9z", 3)), pack(2, api.OK)},
		{pack(utext.Index("a\u00e9z", 2)), pack(0, api.ErrPlace)},
		{pack(utext.Index("a\u00e9z", 4)), pack(3, api.OK)},
		{pack(utext.Slice("a\u00e9z", 1, 1)), pack("", api.OK)},
		{pack(utext.Splice("a\u00e9z", 1, 1, "xy")), pack("axyz", api.OK)},
		{pack(utext.Splice("abc", 2, 2, "")), pack("", api.ErrPlace)},
		{pack(utext.Splice("abc", 9, 0, "\xff")), pack("", api.ErrUtf8)},
		{pack(utext.Diff("aXa", "aXaXa")), pack(3, 0, "Xa", api.OK)},
		{pack(utext.Diff("aa", "a")), pack(1, 1, "", api.OK)},
		{pack(utext.Diff("\u00e9", "\u00e8")), pack(0, 1, "\u00e8", api.OK)},
		{pack(utext.Quote("a\"\\\n\u00e9\xc3\x00")), pack(`"a\"\\\n\u{e9}\xc3\u{0}"`)},
		{pack(utext.Unquote(`"\u{e9}"` + "xyz")), pack("\xc3\xa9", 8, api.OK)},
		{pack(utext.Unquote(`"\xc3\xa9"`)), pack("", 0, api.ErrQuote)},
		{pack(utext.Unquote(`"\xe9"`)), pack("\xe9", 6, api.OK)},
		{pack(utext.Unquote(`""`)), pack("", 2, api.OK)},
		{pack(utext.Unquote(`"a`)), pack("", 0, api.ErrQuote)},
		{pack(utext.Where("ab\ncd", 3)), pack(1, 0, api.OK)},
		{pack(utext.Where("ab\ncd", 2)), pack(0, 2, api.OK)},
		{pack(utext.Find("ab\n\ncd", 1, 7)), pack(3, api.OK)},
		{pack(utext.Find("ab", 1, 0)), pack(0, api.ErrPlace)},
		{pack(utext.Step("abc\nd\nefg", 2, 6)), pack(5, api.OK)},
		{pack(utext.Step("abc\nd", 5, 5)), pack(1, api.OK)},
		{pack(utext.Step("go on, then", 11, 7)), pack(7, api.OK)},
		{pack(utext.Step("go on, then", 0, 8)), pack(2, api.OK)},
		{pack(utext.Step("go on, then", 2, 8)), pack(5, api.OK)},
		{pack(utext.Step("ab", 3, 0)), pack(0, api.ErrPlace)},
		{pack(utext.Step("ab", 2, 0)), pack(0, api.ErrWalk)},
	} {
		if !same(c.got, c.want) {
			t.Errorf("example %d: %v, want %v", i+1, c.got, c.want)
		}
	}
}

// shares: do two strings lie in the same memory, in part or whole?
func shares(a, b string) bool {
	if a == "" || b == "" {
		return false
	}
	p, q := uintptr(unsafe.Pointer(unsafe.StringData(a))), uintptr(unsafe.Pointer(unsafe.StringData(b)))
	return p < q+uintptr(len(b)) && q < p+uintptr(len(a))
}

// Rule 11: what is handed out is new memory, also where the answer is an argument's own text.
func TestAnswersAreNewMemory(t *testing.T) {
	s := string([]byte("a text of many runes \u00e9\u20ac"))
	if got, _ := utext.Slice(s, 0, 23); got != s || shares(got, s) {
		t.Errorf("T4: Slice hands out its argument's memory")
	}
	if got, _ := utext.Splice(s, 3, 0, ""); got != s || shares(got, s) {
		t.Errorf("T5: Splice hands out the memory of s")
	}
	if got, _ := utext.Splice("", 0, 0, s); got != s || shares(got, s) {
		t.Errorf("T5: Splice hands out the memory of ins")
	}
	if _, _, got, _ := utext.Diff("", s); got != s || shares(got, s) {
		t.Errorf("T6: Diff hands out the memory of now")
	}
	q := string([]byte(`"plain words"`))
	if got, _, _ := utext.Unquote(q); got != "plain words" || shares(got, q) {
		t.Errorf("T8: Unquote hands out its argument's memory")
	}
}
