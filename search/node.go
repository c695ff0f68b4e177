package search

import "slices"

// node: a part of a pattern, of one of the kinds below.
type node interface {
	// hollow: whether it may match an empty stretch somewhere.
	hollow() bool
	// lay puts its steps on the track, ahead of the step next, and answers the one that it begins with.
	lay(t *track, next int) int
}

// single: a node that matches stretches of one rune.
type single interface {
	takes(r rune) bool
}

// edge: a node that matches the empty stretch, where it stands.
type edge interface {
	stands(text []rune, q int) bool
}

// The kinds. A branch is no node: only a group holds branches, and the whole pattern is a group that is written without its parentheses.
type (
	literal   rune     // itself
	anyRune   struct{} // .
	digit     struct{} // \d
	blank     struct{} // \s
	wordRune  struct{} // \w
	lineBegin struct{} // ^
	lineEnd   struct{} // $
	wordEdge  struct{} // \b

	class struct {
		not    bool
		ranges []stretch
	}
	group  []branch
	branch []node

	star  struct{ atom node } // *
	plus  struct{ atom node } // +
	maybe struct{ atom node } // ?
)

func (x literal) takes(r rune) bool { return r == rune(x) }
func (anyRune) takes(r rune) bool   { return r != '\n' }
func (digit) takes(r rune) bool     { return '0' <= r && r <= '9' }
func (blank) takes(r rune) bool     { return r == ' ' || r == '\t' || r == '\n' }
func (wordRune) takes(r rune) bool  { return isWord(r) }
func (x class) takes(r rune) bool   { return holds(x.ranges, r) != x.not }

func (lineBegin) stands(text []rune, q int) bool { return q == 0 || text[q-1] == '\n' }
func (lineEnd) stands(text []rune, q int) bool   { return q == len(text) || text[q] == '\n' }
func (wordEdge) stands(text []rune, q int) bool {
	behind := q > 0 && isWord(text[q-1])
	ahead := q < len(text) && isWord(text[q])
	return behind != ahead
}

func (literal) hollow() bool   { return false }
func (anyRune) hollow() bool   { return false }
func (digit) hollow() bool     { return false }
func (blank) hollow() bool     { return false }
func (wordRune) hollow() bool  { return false }
func (class) hollow() bool     { return false }
func (lineBegin) hollow() bool { return true }
func (lineEnd) hollow() bool   { return true }
func (wordEdge) hollow() bool  { return true }
func (x group) hollow() bool   { return slices.ContainsFunc(x, branch.hollow) }
func (star) hollow() bool      { return true }
func (x plus) hollow() bool    { return x.atom.hollow() }
func (maybe) hollow() bool     { return true }

func (b branch) hollow() bool {
	return !slices.ContainsFunc(b, func(n node) bool { return !n.hollow() })
}

// isWord: whether it is a word rune, as chapter 1 has them.
func isWord(r rune) bool {
	return 'a' <= r && r <= 'z' || 'A' <= r && r <= 'Z' || '0' <= r && r <= '9' || r == '_' || r >= 0xc0
}
