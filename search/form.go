package search

// One form: a pattern is put together so that no group stands in it that could be left out. What is added here was read to its end and is in its form already, so each of the three rules is asked just once, from the innermost groups outwards.

// with: the branch and one more atom without a mark. A group of one branch is no more than its pieces.
func (b branch) with(atom node) branch {
	if g, ok := atom.(group); ok && len(g) == 1 {
		return append(b, g[0]...)
	}
	return append(b, atom)
}

// with: the group and one more branch. One that is nothing but a group without a mark is that group's branches.
func (g group) with(b branch) group {
	if len(b) == 1 {
		if inner, ok := b[0].(group); ok {
			return append(g, inner...)
		}
	}
	return append(g, b)
}

// marked: the atom with its mark. In a group of one piece without a mark that piece's atom gets it.
func marked(atom node, mark rune) node {
	if g, ok := atom.(group); ok && len(g) == 1 && len(g[0]) == 1 && !hasMark(g[0][0]) {
		atom = g[0][0]
	}
	switch mark {
	case '*':
		return star{atom}
	case '+':
		return plus{atom}
	}
	return maybe{atom}
}

func hasMark(n node) bool {
	switch n.(type) {
	case star, plus, maybe:
		return true
	}
	return false
}
