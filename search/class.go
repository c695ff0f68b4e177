package search

import (
	"cmp"
	"slices"
)

// stretch: the numbers lo to hi, both of them too. They are numbers and not runes of a text: one that no text can hold counts like any other.
type stretch struct{ lo, hi rune }

// joined: the same numbers as the fewest stretches, rising.
func joined(items []stretch) []stretch {
	slices.SortFunc(items, func(a, b stretch) int { return cmp.Compare(a.lo, b.lo) })
	var out []stretch
	for _, s := range items {
		if n := len(out); n > 0 && s.lo <= out[n-1].hi+1 {
			out[n-1].hi = max(out[n-1].hi, s.hi)
		} else {
			out = append(out, s)
		}
	}
	return out
}

func holds(ranges []stretch, r rune) bool {
	return slices.ContainsFunc(ranges, func(s stretch) bool { return s.lo <= r && r <= s.hi })
}
