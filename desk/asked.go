package desk

import "redraft/api"

// asked: a call at the face, by what a Fault tells of it. It is handed down to where the call may have to be given up.
type asked struct {
	call string
	at   int
}

// fault: what the call answers if it met err.
func (a asked) fault(err error) *api.Fault {
	return &api.Fault{Call: a.call, At: a.at, Err: err}
}

// answer: the call's error; nil, if all is well.
func (a asked) answer(e api.Errno) error {
	if e == api.OK {
		return nil
	}
	return a.fault(e)
}

// hold: the call goes on just if all is well. Else it is given up, and its face catches the Fault.
func (a asked) hold(e api.Errno) {
	if e != api.OK {
		panic(a.fault(e))
	}
}

// refuse: the call is given up if something is wrong.
func (a asked) refuse(wrong bool, e api.Errno) {
	if wrong {
		a.hold(e)
	}
}

// caught: the error that a face answers when it has recovered r: the Fault with which its call was given up, or nil. Nothing else is ever thrown, so nothing else is made an answer.
func caught(r any) error {
	if r == nil {
		return nil
	}
	return r.(*api.Fault)
}
