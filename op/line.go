package op

import (
	"strconv"
	"strings"

	"redraft/api"
	"redraft/utext"
)

// Print: its text.
func Print(o api.Op) (string, api.Errno) {
	if e := ownError(o); e != api.OK {
		return "", e
	}
	return printID(o.ID) + " " + printWord(o), api.OK
}

func printID(id api.ID) string {
	if id == (api.ID{}) {
		return "-"
	}
	return strconv.Itoa(id[0]) + "." + strconv.Itoa(id[1])
}

// printWord: the word of a right operation and what follows it.
func printWord(o api.Op) string {
	switch o.Kind {
	case api.Ins:
		return "ins " + strconv.Itoa(o.At) + " " + utext.Quote(o.Text)
	case api.Hide:
		return "hide " + printRanges(o.Ranges)
	case api.Show:
		return "show " + printRanges(o.Ranges)
	}
	if o.On {
		return "on " + printID(o.Target)
	}
	return "off " + printID(o.Target)
}

func printRanges(list []api.Range) string {
	var b strings.Builder
	for i, r := range list {
		if i > 0 {
			b.WriteByte(',')
		}
		b.WriteString(strconv.Itoa(r.Lo))
		b.WriteByte('-')
		b.WriteString(strconv.Itoa(r.Hi))
	}
	return b.String()
}

// Parse: the operation of a text that Print gives.
func Parse(s string) (api.Op, api.Errno) {
	o := readLine(s)
	// Reading is generous; that each operation has just one line is Print's to say, so it is asked.
	if line, e := Print(o); e != api.OK || line != s {
		return api.Op{}, api.ErrSyntax
	}
	return o, api.OK
}

// readLine reads everything that Print writes, and some that it doesn't; where it can't, it leaves in o what no right operation has.
func readLine(s string) (o api.Op) {
	id, rest, _ := strings.Cut(s, " ")
	word, rest, _ := strings.Cut(rest, " ")
	o.ID = readID(id)
	switch word {
	case "ins":
		at, quoted, _ := strings.Cut(rest, " ")
		o.Kind, o.At = api.Ins, readNumber(at)
		o.Text, _, _ = utext.Unquote(quoted) // no quoted form: the empty text
	case "hide":
		o.Kind, o.Ranges = api.Hide, readRanges(rest)
	case "show":
		o.Kind, o.Ranges = api.Show, readRanges(rest)
	case "on", "off":
		o.Kind, o.Target, o.On = api.Status, readID(rest), word == "on"
	}
	return o
}

func readID(s string) api.ID {
	if s == "-" {
		return api.ID{}
	}
	client, number, _ := strings.Cut(s, ".")
	return api.ID{readNumber(client), readNumber(number)}
}

// readNumber: -1 of what is no number, which may stand nowhere in an operation.
func readNumber(s string) int {
	n, err := strconv.Atoi(s)
	if err != nil {
		return -1
	}
	return n
}

// readRanges stops where there are too many already: a line may be far longer than any list.
func readRanges(s string) []api.Range {
	var list []api.Range
	for more := true; more && len(list) <= api.MaxRanges; {
		var part string
		part, s, more = strings.Cut(s, ",")
		lo, hi, _ := strings.Cut(part, "-")
		list = append(list, api.Range{Lo: readNumber(lo), Hi: readNumber(hi)})
	}
	return list
}
