package search

import "strings"

// Print: its text, in one form.
func (p *Pattern) Print() string {
	var b strings.Builder
	writeBranches(&b, p.whole)
	return b.String()
}

func writeBranches(b *strings.Builder, g group) {
	for i, part := range g {
		if i > 0 {
			b.WriteByte('|')
		}
		for _, n := range part {
			write(b, n)
		}
	}
}

func write(b *strings.Builder, n node) {
	switch x := n.(type) {
	case literal:
		writeRune(b, rune(x), signs)
	case anyRune:
		b.WriteByte('.')
	case digit:
		b.WriteString(`\d`)
	case blank:
		b.WriteString(`\s`)
	case wordRune:
		b.WriteString(`\w`)
	case lineBegin:
		b.WriteByte('^')
	case lineEnd:
		b.WriteByte('$')
	case wordEdge:
		b.WriteString(`\b`)
	case class:
		writeClass(b, x)
	case group:
		b.WriteByte('(')
		writeBranches(b, x)
		b.WriteByte(')')
	case star:
		write(b, x.atom)
		b.WriteByte('*')
	case plus:
		write(b, x.atom)
		b.WriteByte('+')
	case maybe:
		write(b, x.atom)
		b.WriteByte('?')
	}
}

func writeClass(b *strings.Builder, x class) {
	b.WriteByte('[')
	if x.not {
		b.WriteByte('^')
	}
	for _, s := range x.ranges {
		writeRune(b, s.lo, classSigns)
		if s.hi > s.lo+1 {
			b.WriteByte('-')
		}
		if s.hi > s.lo {
			writeRune(b, s.hi, classSigns)
		}
	}
	b.WriteByte(']')
}

// writeRune: with a \ ahead of it, if it is one of the signs.
func writeRune(b *strings.Builder, r rune, signs string) {
	if strings.ContainsRune(signs, r) {
		b.WriteByte('\\')
	}
	b.WriteRune(r)
}
