package msg

import "redraft/api"

// reader: bytes, and how many of them have been read. Its methods read a field each. Where one can't go on it gives up by panic, with a fault: so each field is read as if all those ahead of it were right.
type reader struct {
	bytes []byte
	at    int
}

// fault: the byte at which a reader gave up, and why.
type fault struct {
	at  int
	why api.Errno
}

// caught: what a face answers when it has recovered r: the fault with which its reader gave up, or none. Nothing else is ever thrown, so nothing else is made an answer.
func caught(r any) (int, api.Errno) {
	if r == nil {
		return 0, api.OK
	}
	f := r.(fault)
	return f.at, f.why
}

// refuse: the reader gives up if something is wrong.
func (r *reader) refuse(wrong bool, at int, why api.Errno) {
	if wrong {
		panic(fault{at, why})
	}
}

// take: the next n bytes. They are not copied.
func (r *reader) take(n int) []byte {
	r.refuse(n > len(r.bytes)-r.at, len(r.bytes), api.ErrCut)
	r.at += n
	return r.bytes[r.at-n : r.at]
}

// number: a number of any size.
func (r *reader) number() int {
	first, n := r.at, 0
	for i := range numberBytes {
		b := r.take(1)[0]
		n |= int(b%follows) << (groupBits * i)
		if b < follows {
			// A last group of zeros could have been left out.
			r.refuse(b == 0 && i > 0, first, api.ErrNumber)
			return n
		}
	}
	panic(fault{first, api.ErrNumber})
}

// between: a number, refused with why unless it is low to high.
func (r *reader) between(low, high int, why api.Errno) int {
	first := r.at
	n := r.number()
	r.refuse(!within(n, low, high), first, why)
	return n
}

// amount: how many things follow: 1 to most.
func (r *reader) amount(most int, none, many api.Errno) int {
	first := r.at
	n := r.between(1, maxNumber, none)
	r.refuse(n > most, first, many)
	return n
}

// end: behind the last field nothing stands.
func (r *reader) end() {
	r.refuse(r.at < len(r.bytes), r.at, api.ErrRest)
}
