package utext

import (
	"strconv"
	"strings"
	"unicode/utf8"

	"redraft/api"
)

// Quote: any bytes as a quoted ASCII text, of one form.
func Quote(s string) string {
	var b strings.Builder
	b.WriteByte('"')
	for at, r := range s {
		if broken(s, at, r) {
			b.WriteString(quotedByte(s[at]))
		} else {
			b.WriteString(quotedRune(r))
		}
	}
	b.WriteByte('"')
	return b.String()
}

// quotedByte pads nothing: a byte at which no sequence begins is 80 or more, so it has two digits.
func quotedByte(c byte) string {
	return `\x` + strconv.FormatInt(int64(c), 16)
}

func quotedRune(r rune) string {
	switch {
	case r == '"':
		return `\"`
	case r == '\\':
		return `\\`
	case r == '\n':
		return `\n`
	case r == '\t':
		return `\t`
	case 0x20 <= r && r <= 0x7e:
		return string(r)
	}
	return `\u{` + strconv.FormatInt(int64(r), 16) + `}`
}

// Unquote: the bytes of what Quote gives, and how many bytes of s it took: s begins with it.
func Unquote(s string) (string, int, api.Errno) {
	x, n, ok := readQuoted(s)
	// Reading is generous; that each string has just one form is Quote's to say, so it is asked.
	if !ok || Quote(x) != s[:n] {
		return "", 0, api.ErrQuote
	}
	return x, n, api.OK
}

// readQuoted reads everything that Quote writes, and some that it doesn't.
func readQuoted(s string) (x string, n int, ok bool) {
	if !strings.HasPrefix(s, `"`) {
		return "", 0, false
	}
	var b strings.Builder
	for i := 1; i < len(s); {
		switch s[i] {
		case '"':
			return b.String(), i + 1, true
		case '\\':
			piece, width := readEscape(s[i:])
			if width == 0 {
				return "", 0, false
			}
			b.WriteString(piece)
			i += width
		default:
			b.WriteByte(s[i])
			i++
		}
	}
	return "", 0, false
}

// readEscape: what the escape at the beginning of s stands for, and its width in bytes; 0: it is none.
func readEscape(s string) (piece string, width int) {
	if len(s) < 2 {
		return "", 0
	}
	switch s[1] {
	case '"', '\\':
		return s[1:2], 2
	case 'n':
		return "\n", 2
	case 't':
		return "\t", 2
	case 'x':
		return readByte(s)
	case 'u':
		return readRune(s)
	}
	return "", 0
}

func readByte(s string) (piece string, width int) {
	if len(s) < 4 {
		return "", 0
	}
	v, err := strconv.ParseUint(s[2:4], 16, 8)
	if err != nil {
		return "", 0
	}
	return string([]byte{byte(v)}), 4
}

func readRune(s string) (piece string, width int) {
	end := strings.IndexByte(s, '}')
	if end < 0 || !strings.HasPrefix(s, `\u{`) {
		return "", 0
	}
	// 31 bits: a rune's, but for its sign, so that no number wraps round.
	v, err := strconv.ParseUint(s[3:end], 16, 31)
	if err != nil || !utf8.ValidRune(rune(v)) {
		return "", 0
	}
	return string(rune(v)), end + 1
}
