package search

import (
	"slices"
	"strings"

	"redraft/api"
	"redraft/utext"
)

// Replace: the text with all matches replaced (in with, & is what matched), and how many there were.
func (p *Pattern) Replace(text, with string) (string, int, api.Errno) {
	runes, list, e := p.swaps(text, with)
	if e != api.OK {
		return "", 0, e
	}
	var b strings.Builder
	done := 0
	for _, s := range list {
		b.WriteString(string(runes[done:s.At]))
		b.WriteString(s.Ins)
		done = s.At + s.Del
	}
	b.WriteString(string(runes[done:]))
	return b.String(), len(list), api.OK
}

// Plan: the splices that do so, one behind the other, the last match first.
func (p *Pattern) Plan(text, with string) ([]api.Splice, api.Errno) {
	runes, list, e := p.swaps(text, with)
	if e != api.OK {
		return nil, e
	}
	var plan []api.Splice
	for _, s := range slices.Backward(list) {
		if s.Ins != string(runes[s.At:s.At+s.Del]) {
			plan = append(plan, s)
		}
	}
	return plan, api.OK
}

// swaps: the text's runes, and for each match, in their order, the splice of the text as it stands that puts with in its place.
func (p *Pattern) swaps(text, with string) ([]rune, []api.Splice, api.Errno) {
	for _, s := range [2]string{text, with} {
		if _, _, e := utext.Check(s); e != api.OK {
			return nil, nil, e
		}
	}
	parts, ok := cut(with)
	if !ok {
		return nil, nil, api.ErrPattern
	}
	runes := []rune(text)
	var list []api.Splice
	for _, m := range p.matches(runes) {
		list = append(list, api.Splice{At: m.Lo, Del: m.Hi - m.Lo, Ins: fill(parts, string(runes[m.Lo:m.Hi]))})
	}
	return runes, list, api.OK
}

// cut: what stands between the places at which a match's runes go in; not ok: there is a \ ahead of what needs none, or of nothing.
func cut(with string) (parts []string, ok bool) {
	var b strings.Builder
	escaped := false
	for _, r := range with {
		switch {
		case escaped && r != '&' && r != '\\':
			return nil, false
		case !escaped && r == '\\':
			escaped = true
			continue
		case !escaped && r == '&':
			parts = append(parts, b.String())
			b.Reset()
		default:
			b.WriteRune(r)
		}
		escaped = false
	}
	return append(parts, b.String()), !escaped
}

// fill: the parts with the match between each two. (strings.Join hands a single part out as it is, and each splice has its text to itself.)
func fill(parts []string, match string) string {
	return strings.Clone(strings.Join(parts, match))
}
