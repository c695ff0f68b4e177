package search

import (
	"redraft/api"
	"redraft/utext"
)

// Empty: may it match the empty text?
func (p *Pattern) Empty() bool {
	return p.track.ends(nil, 0)[0] == 0
}

// Match: does it match the whole text?
func (p *Pattern) Match(text string) (bool, api.Errno) {
	n, _, e := utext.Check(text)
	if e != api.OK {
		return false, e
	}
	return p.track.ends([]rune(text), 0)[0] == n, api.OK
}

// Find: the leftmost match from rune place from on, of these the longest.
func (p *Pattern) Find(text string, from int) (api.Range, api.Errno) {
	n, _, e := utext.Check(text)
	if e != api.OK {
		return api.Range{}, e
	}
	if from < 0 || from > n {
		return api.Range{}, api.ErrPlace
	}
	for i, end := range p.track.ends([]rune(text), from) {
		if end != none {
			return api.Range{Lo: from + i, Hi: end}, api.OK
		}
	}
	return api.Range{}, api.ErrUnknown
}

// All: all matches, one behind the other, none in another.
func (p *Pattern) All(text string) ([]api.Range, api.Errno) {
	if _, _, e := utext.Check(text); e != api.OK {
		return nil, e
	}
	return p.matches([]rune(text)), api.OK
}

func (p *Pattern) matches(text []rune) []api.Range {
	ends := p.track.ends(text, 0)
	var list []api.Range
	last := none // where the match ahead ends: an empty one may not touch it
	for q := 0; q <= len(text); {
		end := ends[q]
		if end > q || end == q && last != q {
			list = append(list, api.Range{Lo: q, Hi: end})
			last = end
		}
		q = max(q+1, end)
	}
	return list
}
