package span

import (
	"iter"

	"redraft/api"
)

// Each: its places, rising; nothing of what is not normalised.
func Each(a []api.Range) iter.Seq[int] {
	var held []api.Range
	if _, e := Check(a); e == api.OK {
		held = copied(a)
	}
	return func(yield func(int) bool) {
		for _, r := range held {
			for q := r.Lo; q < r.Hi; q++ {
				if !yield(q) {
					return
				}
			}
		}
	}
}
