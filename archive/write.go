package archive

import (
	"redraft/api"
	"redraft/frame"
	"redraft/msg"
	"redraft/op"
)

// What a head's payload begins with: the word, the version, the kind.
const (
	word      = "redraft"
	version   = 1
	wholeKind = 1
	deltaKind = 2
)

// What the payloads of the other frames begin with.
const (
	commandMark = 0x63
	footMark    = 0x65
)

// head: what a head says. An archive has no base.
type head struct {
	kind byte
	base api.Summary // of it a head tells the commands and the checksum alone
}

func (h head) payload() []byte {
	b := append([]byte(word), version, h.kind)
	if h.kind == deltaKind {
		b = appendNumber(b, h.base.Commands)
		b = append(b, h.base.Sum[:]...)
	}
	return b
}

// whole: the archive of these commands.
func whole(ops []api.Op) []byte { return written(head{kind: wholeKind}, ops) }

// written: the frames of a head, of commands that are numbered from its base's on, and of their foot.
func written(h head, ops []api.Op) []byte {
	b := appendFrame(nil, h.payload())
	for i, o := range ops {
		b = appendFrame(b, append(appendNumber([]byte{commandMark}, h.base.Commands+i), coded(o)...))
	}
	return appendFrame(b, foot(ops))
}

// foot: the payload of the foot behind these commands.
func foot(ops []api.Op) []byte {
	s := summary(ops)
	b := appendNumber([]byte{footMark}, s.Commands)
	b = appendNumber(b, s.Cells)
	return append(b, s.Sum[:]...)
}

// summary: what a foot says of these commands.
func summary(ops []api.Op) api.Summary {
	cells := 0
	var all []byte
	for _, o := range ops {
		cells += op.Width(o)
		all = append(all, coded(o)...)
	}
	return api.Summary{Commands: len(ops), Cells: cells, Sum: frame.Checksum(all)}
}

// coded: a command's bytes. What a view has taken, or bytes have told, is a command that may travel: none is refused.
func coded(o api.Op) []byte {
	b, _ := msg.EncodeOp(o)
	return b
}

// appendFrame: b and the frame of a payload. No command's bytes are so many that its payload were too long for one.
func appendFrame(b, payload []byte) []byte {
	f, _ := frame.Wrap(payload)
	return append(b, f...)
}

// appendNumber: b and the four bytes of n, the highest first.
func appendNumber(b []byte, n int) []byte {
	return append(b, byte(n>>24), byte(n>>16), byte(n>>8), byte(n))
}
