package journal

import (
	"redraft/api"
	"redraft/frame"
)

// headBytes: how many bytes of a payload stand ahead of the record's.
const headBytes = 4

// head: a record's number, as it stands there.
type head [headBytes]byte

// headOf: the head of record k.
func headOf(k int) head {
	return head{byte(k >> 24), byte(k >> 16), byte(k >> 8), byte(k)}
}

// payloadOf: what record k's frame holds.
func payloadOf(k int, record []byte) []byte {
	h := headOf(k)
	out := make([]byte, 0, headBytes+len(record))
	out = append(out, h[:]...)
	return append(out, record...)
}

// Parse: the records of a file's bytes, how many bytes they are, and why it ended there (OK: at the end).
func Parse(b []byte) (records [][]byte, good int, why api.Errno) {
	t := take(b, 0, first)
	return t.records, t.good(), number(t.why)
}

// taken: records taken out of a run of frames, where each one's frame ends, and why no more were taken (nil: there were no more bytes).
type taken struct {
	records [][]byte
	ends    []int
	why     error
}

// good: how many bytes the frames of the records have together.
func (t taken) good() int {
	if len(t.ends) == 0 {
		return 0
	}
	return t.ends[len(t.ends)-1]
}

// take: the records of bytes that begin with the frame of record lo. How the next frame is taken, of the bytes that are left and by its record's number, is next's business: it tells the payload and the frame's length.
func take(b []byte, lo int, next func(rest []byte, k int) ([]byte, int, error)) taken {
	var t taken
frames:
	for t.good() < len(b) {
		k := lo + len(t.records)
		payload, n, err := next(b[t.good():], k)
		switch {
		case err != nil:
			t.why = err
			break frames
		case len(payload) < headBytes:
			t.why = api.ErrCut
			break frames
		case head{payload[0], payload[1], payload[2], payload[3]} != headOf(k):
			t.why = api.ErrIndex
			break frames
		}
		t.records = append(t.records, payload[headBytes:])
		t.ends = append(t.ends, t.good()+n)
	}
	return t
}

// first: the payload of the frame that bytes begin with, as long as it says itself.
func first(rest []byte, _ int) ([]byte, int, error) {
	payload, n, e := frame.First(rest)
	return payload, n, told(e)
}
