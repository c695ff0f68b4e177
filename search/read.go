package search

import (
	"strings"

	"redraft/api"
)

// What stands for itself only behind a \: outside of a class, and within one.
const (
	signs      = `.[]()|*+?\^$`
	classSigns = `[]\-^`
)

const sourceEnd rune = -1

// reader goes through a source, rune by rune. Where one of its methods answers an error, at is the fault's place.
type reader struct {
	runes []rune
	at    int
}

// next: the rune that is to be read, or sourceEnd.
func (r *reader) next() rune {
	if r.at == len(r.runes) {
		return sourceEnd
	}
	return r.runes[r.at]
}

// all reads the whole source.
func (r *reader) all() (group, api.Errno) {
	g, e := r.pattern()
	if e == api.OK && r.next() != sourceEnd { // a ) that closes nothing
		e = api.ErrPattern
	}
	return g, e
}

// pattern reads branches up to a ) or the source's end, and stays there.
func (r *reader) pattern() (group, api.Errno) {
	var g group
	for {
		b, e := r.branch()
		if e != api.OK {
			return nil, e
		}
		g = g.with(b)
		if r.next() != '|' {
			return g, api.OK
		}
		r.at++
	}
}

// branch reads pieces up to a | or ) or the source's end, and stays there.
func (r *reader) branch() (branch, api.Errno) {
	var b branch
	for {
		atom, e := r.atom()
		if e != api.OK {
			return nil, e
		}
		switch mark := r.next(); mark {
		case '*', '+', '?':
			if atom.hollow() {
				return nil, api.ErrRepeat
			}
			r.at++
			b = append(b, marked(atom, mark))
		default:
			b = b.with(atom)
		}
		switch r.next() {
		case '|', ')', sourceEnd:
			return b, api.OK
		}
	}
}

// atom reads one. What may not stand where an atom is wanted may not begin one behind a piece either: a mark there has one ahead of it.
func (r *reader) atom() (node, api.Errno) {
	c := r.next()
	switch c {
	case sourceEnd, '|', ')', '*', '+', '?', ']':
		return nil, api.ErrPattern
	}
	r.at++
	switch c {
	case '(':
		return r.group()
	case '[':
		return r.class()
	case '\\':
		return r.escape()
	case '.':
		return anyRune{}, api.OK
	case '^':
		return lineBegin{}, api.OK
	case '$':
		return lineEnd{}, api.OK
	}
	return literal(c), api.OK
}

// group reads what stands behind a (.
func (r *reader) group() (node, api.Errno) {
	g, e := r.pattern()
	if e != api.OK {
		return nil, e
	}
	if r.next() != ')' {
		return nil, api.ErrPattern
	}
	r.at++
	return g, api.OK
}

// escape reads what stands behind a \.
func (r *reader) escape() (node, api.Errno) {
	var n node
	switch c := r.next(); {
	case c == 'd':
		n = digit{}
	case c == 's':
		n = blank{}
	case c == 'w':
		n = wordRune{}
	case c == 'b':
		n = wordEdge{}
	case strings.ContainsRune(signs, c):
		n = literal(c)
	default:
		return nil, api.ErrPattern
	}
	r.at++
	return n, api.OK
}

// class reads what stands behind a [.
func (r *reader) class() (node, api.Errno) {
	not := r.next() == '^'
	if not {
		r.at++
	}
	var items []stretch
	for len(items) == 0 || r.next() != ']' {
		s, e := r.item()
		if e != api.OK {
			return nil, e
		}
		items = append(items, s)
	}
	r.at++
	return class{not: not, ranges: joined(items)}, api.OK
}

// item reads a rune of a class, or two with a - between.
func (r *reader) item() (stretch, api.Errno) {
	lo, e := r.half()
	if e != api.OK || r.next() != '-' {
		return stretch{lo, lo}, e
	}
	r.at++
	second := r.at
	hi, e := r.half()
	if e == api.OK && lo > hi {
		r.at = second
		e = api.ErrPattern
	}
	return stretch{lo, hi}, e
}

// half reads one rune of an item, and the \ ahead of it.
func (r *reader) half() (rune, api.Errno) {
	c := r.next()
	switch c {
	case sourceEnd, '[', ']', '^', '-':
		return 0, api.ErrPattern
	case '\\':
		r.at++
		c = r.next()
		if !strings.ContainsRune(classSigns, c) {
			return 0, api.ErrPattern
		}
	}
	r.at++
	return c, api.OK
}
