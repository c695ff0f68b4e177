package search_test

import (
	"slices"
	"strings"

	"redraft/api"
)

// The tests' own reading of the chapter, built in another way than the package: a source is cut into words and a stack takes them in, one form comes about by rewriting until nothing changes, and matching is cutting stretches, as the chapter defines it.

// part: a piece: an atom and its mark, or 0.
type part struct {
	kind  rune // 'r' a rune, '[' a class, '(' a group, or the atom's own sign or letter
	r     rune
	not   bool
	items [][2]rune
	inner pattern
	mark  rune
}

type pattern [][]*part

// word: what the stack takes in: 'a' an atom, one of ( ) | * + ?, 'e' the source's end, '!' a fault.
type word struct {
	kind rune
	at   int
	x    *part
}

const special = `.[]()|*+?\^$`

func isOneOf(list string, runes []rune, at int) bool {
	return at < len(runes) && strings.ContainsRune(list, runes[at])
}

// words: a source cut up, as far as the first fault that lies within an atom, or a ] that ends nothing.
func words(runes []rune) []word {
	var list []word
	for at := 0; at < len(runes); at++ {
		c := runes[at]
		switch {
		case c == ']':
			return append(list, word{'!', at, nil})
		case strings.ContainsRune("()|*+?", c):
			list = append(list, word{c, at, nil})
		case strings.ContainsRune(".^$", c):
			list = append(list, word{'a', at, &part{kind: c}})
		case c == '\\' && isOneOf("dswb", runes, at+1):
			at++
			list = append(list, word{'a', at, &part{kind: runes[at]}})
		case c == '\\':
			at++
			if !isOneOf(special, runes, at) {
				return append(list, word{'!', at, nil})
			}
			list = append(list, word{'a', at, &part{kind: 'r', r: runes[at]}})
		case c == '[':
			x, last, ok := aClass(runes, at+1)
			if !ok {
				return append(list, word{'!', last, nil})
			}
			list = append(list, word{'a', at, x})
			at = last
		default:
			list = append(list, word{'a', at, &part{kind: 'r', r: c}})
		}
	}
	return append(list, word{'e', len(runes), nil})
}

// aClass: the class that begins at the place at, behind its [, and the place of its ]; not ok: the place of its fault.
func aClass(runes []rune, at int) (x *part, last int, ok bool) {
	x = &part{kind: '['}
	if isOneOf("^", runes, at) {
		x.not = true
		at++
	}
	halves := 2 // of the item that stands just ahead: 1, 2, or 3: one and a -
	for ; ; at++ {
		begin := at
		switch {
		case isOneOf("]", runes, at):
			return x, at, len(x.items) > 0 && halves != 3
		case isOneOf("-", runes, at) && halves == 1:
			halves = 3
			continue
		case at == len(runes) || isOneOf("-[^", runes, at):
			return nil, at, false
		case runes[at] == '\\':
			at++
			if !isOneOf(`[]\-^`, runes, at) {
				return nil, at, false
			}
		}
		if halves == 3 {
			item := &x.items[len(x.items)-1]
			if item[0] > runes[at] {
				return nil, begin, false
			}
			item[1] = runes[at]
			halves = 2
		} else {
			x.items = append(x.items, [2]rune{runes[at], runes[at]})
			halves = 1
		}
	}
}

// wantCompile: the pattern of a source; else its first fault.
func wantCompile(source string) (p pattern, at int, e api.Errno) {
	if at, e := firstFault(source); e != api.OK {
		return nil, at, e
	}
	runes := []rune(source)
	if len(runes) > 256 {
		return nil, 256, api.ErrLong
	}
	stack := []pattern{{nil}}
	for _, w := range words(runes) {
		top := &stack[len(stack)-1]
		branch := &(*top)[len(*top)-1]
		if len(*branch) == 0 && w.kind != 'a' && w.kind != '(' {
			return nil, w.at, api.ErrPattern
		}
		switch w.kind {
		case 'a':
			*branch = append(*branch, w.x)
		case '(':
			stack = append(stack, pattern{nil})
		case '|':
			*top = append(*top, nil)
		case ')':
			if len(stack) == 1 {
				return nil, w.at, api.ErrPattern
			}
			group := &part{kind: '(', inner: *top}
			stack = stack[:len(stack)-1]
			outer := stack[len(stack)-1]
			outer[len(outer)-1] = append(outer[len(outer)-1], group)
		case '*', '+', '?':
			x := (*branch)[len(*branch)-1]
			if x.mark != 0 {
				return nil, w.at, api.ErrPattern
			}
			if x.hollow() {
				return nil, w.at, api.ErrRepeat
			}
			x.mark = w.kind
		case 'e':
			if len(stack) > 1 {
				return nil, w.at, api.ErrPattern
			}
		default:
			return nil, w.at, api.ErrPattern
		}
	}
	return stack[0], 0, api.OK
}

// firstFault: of a string that is no text, in runes. (What ErrRune's runes are is chapter 1's; of these some do.)
func firstFault(s string) (at int, e api.Errno) {
	for _, one := range strings.Split(s, "") {
		switch {
		case []rune(one)[0] == 0xfffd && one != "\ufffd":
			return at, api.ErrUtf8
		case strings.ContainsAny(one, "\x00\x01\r\x1f\x7f\u0080\u009f\ufeff\ufdd0\uffff\U0010ffff"):
			return at, api.ErrRune
		}
		at++
	}
	return 0, api.OK
}

func (x *part) hollow() bool {
	switch {
	case x.mark == '*' || x.mark == '?':
		return true
	case x.kind == '(':
		return x.inner.hollow()
	}
	return x.kind == '^' || x.kind == '$' || x.kind == 'b'
}

func (p pattern) hollow() bool {
	for _, branch := range p {
		if !slices.ContainsFunc(branch, func(x *part) bool { return !x.hollow() }) {
			return true
		}
	}
	return false
}

// wantPrint: the one form. The tree that is handed in stays as it is.
func wantPrint(p pattern) string {
	for {
		next, changed := rewritten(p)
		if !changed {
			return spelt(p)
		}
		p = next
	}
}

// rewritten: the pattern behind one step, at a group that holds none at which there is one.
func rewritten(p pattern) (pattern, bool) {
	for i, branch := range p {
		for k, x := range branch {
			if x.kind != '(' {
				continue
			}
			if inner, changed := rewritten(x.inner); changed {
				return swapped(p, i, k, &part{kind: '(', inner: inner, mark: x.mark}), true
			}
			switch {
			case x.mark == 0 && len(x.inner) == 1:
				return swapped(p, i, k, x.inner[0]...), true
			case x.mark == 0 && len(branch) == 1:
				return slices.Concat(p[:i], x.inner, p[i+1:]), true
			case x.mark != 0 && len(x.inner) == 1 && len(x.inner[0]) == 1 && x.inner[0][0].mark == 0:
				atom := *x.inner[0][0]
				atom.mark = x.mark
				return swapped(p, i, k, &atom), true
			}
		}
	}
	return p, false
}

// swapped: a new pattern with other pieces in the place of piece k of branch i.
func swapped(p pattern, i, k int, with ...*part) pattern {
	out := slices.Clone(p)
	out[i] = slices.Concat(p[i][:k], with, p[i][k+1:])
	return out
}

func spelt(p pattern) string {
	var branches []string
	for _, branch := range p {
		s := ""
		for _, x := range branch {
			s += x.spelt()
			if x.mark != 0 {
				s += string(x.mark)
			}
		}
		branches = append(branches, s)
	}
	return strings.Join(branches, "|")
}

func (x *part) spelt() string {
	switch x.kind {
	case '(':
		return "(" + spelt(x.inner) + ")"
	case '[':
		return x.speltClass()
	case 'r':
		return behindSign(x.r, special)
	case '.', '^', '$':
		return string(x.kind)
	}
	return `\` + string(x.kind)
}

func behindSign(r rune, signs string) string {
	if strings.ContainsRune(signs, r) {
		return `\` + string(r)
	}
	return string(r)
}

func (x *part) speltClass() string {
	top := rune(0)
	for _, item := range x.items {
		top = max(top, item[1])
	}
	in := make([]bool, top+3)
	for _, item := range x.items {
		for r := item[0]; r <= item[1]; r++ {
			in[r] = true
		}
	}
	s := "["
	if x.not {
		s += "^"
	}
	for r := rune(0); r <= top; r++ {
		if !in[r] || r > 0 && in[r-1] {
			continue
		}
		last := r
		for in[last+1] {
			last++
		}
		s += behindSign(r, `[]\-^`)
		if last > r+1 {
			s += "-"
		}
		if last > r {
			s += behindSign(last, `[]\-^`)
		}
	}
	return s + "]"
}

// subject: a text, and which stretches of it groups and repeated atoms match.
type subject struct {
	text []rune
	memo map[stretch]bool
}

type stretch struct {
	x    *part
	mark bool // of the piece, or else of its atom
	i, j int
}

func subjectOf(text string) *subject {
	return &subject{[]rune(text), map[stretch]bool{}}
}

// matches: does the pattern match the runes i to j-1?
func (s *subject) matches(p pattern, i, j int) bool {
	for _, branch := range p {
		if s.cut(branch, i, j) {
			return true
		}
	}
	return false
}

// cut: can the stretch be cut into ones that the pieces match?
func (s *subject) cut(branch []*part, i, j int) bool {
	ends := []int{i}
	for _, x := range branch {
		var next []int
		for k := i; k <= j; k++ {
			if slices.ContainsFunc(ends, func(from int) bool { return from <= k && s.piece(x, from, k) }) {
				next = append(next, k)
			}
		}
		ends = next
	}
	return slices.Contains(ends, j)
}

func (s *subject) piece(x *part, i, j int) bool {
	if x.mark == 0 {
		return s.atom(x, i, j)
	}
	if i == j && x.mark != '+' {
		return true
	}
	if x.mark == '?' {
		return s.atom(x, i, j)
	}
	key := stretch{x, true, i, j}
	if _, known := s.memo[key]; !known {
		some := s.atom(x, i, j)
		for k := i + 1; k < j && !some; k++ {
			some = s.atom(x, i, k) && s.piece(x, k, j)
		}
		s.memo[key] = some
	}
	return s.memo[key]
}

func (s *subject) atom(x *part, i, j int) bool {
	if x.kind == '(' {
		key := stretch{x, false, i, j}
		if _, known := s.memo[key]; !known {
			s.memo[key] = s.matches(x.inner, i, j)
		}
		return s.memo[key]
	}
	if strings.ContainsRune("^$b", x.kind) {
		return i == j && s.stands(x.kind, i)
	}
	return j == i+1 && x.takes(s.text[i])
}

func (s *subject) stands(kind rune, q int) bool {
	n := len(s.text)
	switch kind {
	case '^':
		return q == 0 || s.text[q-1] == 0xa
	case '$':
		return q == n || s.text[q] == 0xa
	}
	count := 0
	if q > 0 && ofWord(s.text[q-1]) {
		count++
	}
	if q < n && ofWord(s.text[q]) {
		count++
	}
	return count == 1
}

func ofWord(r rune) bool {
	return strings.ContainsRune("_0123456789abcdefghijklmnopqrstuvwxyzABCDEFGHIJKLMNOPQRSTUVWXYZ", r) || r >= 0xc0
}

func (x *part) takes(r rune) bool {
	switch x.kind {
	case 'r':
		return r == x.r
	case '.':
		return r != 0xa
	case 'd':
		return strings.ContainsRune("0123456789", r)
	case 's':
		return r == 0x20 || r == 9 || r == 0xa
	case 'w':
		return ofWord(r)
	}
	in := false
	for _, item := range x.items {
		in = in || item[0] <= r && r <= item[1]
	}
	return in != x.not
}

// longest: the greatest end of a stretch that begins at i and is matched; -1: there is none.
func (s *subject) longest(p pattern, i int) int {
	for j := len(s.text); j >= i; j-- {
		if s.matches(p, i, j) {
			return j
		}
	}
	return -1
}

// find: Find, of a place that the text has.
func (s *subject) find(p pattern, from int) (api.Range, api.Errno) {
	for i := from; i <= len(s.text); i++ {
		if j := s.longest(p, i); j >= 0 {
			return api.Range{Lo: i, Hi: j}, api.OK
		}
	}
	return api.Range{}, api.ErrUnknown
}

// all: All, beginning with q.
func (s *subject) all(p pattern, q int) []api.Range {
	var list []api.Range
	for q <= len(s.text) {
		j := s.longest(p, q)
		switch {
		case j > q:
			list = append(list, api.Range{Lo: q, Hi: j})
			q = j
			continue
		case j == q && (len(list) == 0 || list[len(list)-1].Hi != q):
			list = append(list, api.Range{Lo: q, Hi: q})
		}
		q++
	}
	return list
}

// edgeless: there is no ^, $ and \b in the pattern.
func (p pattern) edgeless() bool {
	for _, branch := range p {
		for _, x := range branch {
			if strings.ContainsRune("^$b", x.kind) || x.kind == '(' && !x.inner.edgeless() {
				return false
			}
		}
	}
	return true
}
