package page

import "redraft/api"

// noColumns: the first and the last of the runes, side by side, that fill no column.
var noColumns = [...][2]rune{
	{'\n', '\n'},
	{0x300, 0x36f},
	{0x200b, 0x200d},
	{0xfe00, 0xfe0f},
}

// twoColumns: the first and the last of the runes, side by side, that fill two.
var twoColumns = [...][2]rune{
	{0x1100, 0x115f},
	{0x2e80, 0x303e},
	{0x3041, 0xa4cf},
	{0xac00, 0xd7a3},
	{0xf900, 0xfaff},
	{0xfe30, 0xfe6f},
	{0xff00, 0xff60},
	{0xffe0, 0xffe6},
	{0x1f300, 0x1faff},
	{0x20000, 0x3fffd},
}

// Cols: how many columns a rune fills that begins at a column.
func Cols(r rune, at int) int {
	switch {
	case r == '\t':
		return api.Tab - max(at, 0)%api.Tab
	case fillsNone(r):
		return 0
	case fillsTwo(r):
		return 2
	}
	return 1
}

func fillsNone(r rune) bool {
	for _, p := range noColumns {
		if p[0] <= r && r <= p[1] {
			return true
		}
	}
	return false
}

func fillsTwo(r rune) bool {
	for _, p := range twoColumns {
		if p[0] <= r && r <= p[1] {
			return true
		}
	}
	return false
}

func blank(r rune) bool { return r == ' ' || r == '\t' }
