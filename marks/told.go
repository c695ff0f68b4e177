package marks

import (
	"cmp"
	"slices"
	"strings"

	"redraft/api"
)

// Mark: the mark of that name, where it is now.
func (b *Book) Mark(name string) (api.Mark, api.Errno) {
	m := b.marks[name]
	if m == nil {
		return api.Mark{}, api.ErrUnknown
	}
	return copied(*m), api.OK
}

// Marks: all of them, by Lo, then Hi, then name.
func (b *Book) Marks() []api.Mark {
	return b.those(func(api.Mark) bool { return true })
}

// Over: the names of the marks that have a cell in lo to hi-1, in the order of Marks.
func (b *Book) Over(lo, hi int) ([]string, api.Errno) {
	if lo < 0 || lo > hi || hi > b.total {
		return nil, api.ErrPlace
	}
	return names(b.those(func(m api.Mark) bool { return max(lo, m.Lo) < min(hi, m.Hi) })), api.OK
}

// those: the marks for which this is so, in their order.
func (b *Book) those(so func(m api.Mark) bool) []api.Mark {
	var list []api.Mark
	for _, m := range b.marks {
		if so(*m) {
			list = append(list, copied(*m))
		}
	}
	slices.SortFunc(list, compare)
	return list
}

// compare: by the order of marks.
func compare(a, b api.Mark) int {
	return cmp.Or(cmp.Compare(a.Lo, b.Lo), cmp.Compare(a.Hi, b.Hi), strings.Compare(a.Name, b.Name))
}

func names(list []api.Mark) []string {
	var out []string
	for _, m := range list {
		out = append(out, m.Name)
	}
	return out
}
