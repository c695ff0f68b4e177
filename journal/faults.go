package journal

import (
	"errors"

	"redraft/api"
)

// told: what another layer has answered, as an error. (Its OK is an Errno as well: as an error it would not be nil.)
func told(e api.Errno) error {
	if e == api.OK {
		return nil
	}
	return e
}

// number: the number that lies in an error; OK of nil. Every error within this package holds one.
func number(err error) api.Errno {
	var e api.Errno
	if errors.As(err, &e) {
		return e
	}
	return api.OK
}

// fault: an error as the faces answer it: the number itself, wrapped once.
func fault(call string, at int, err error) error {
	return &api.Fault{Call: call, At: at, Err: number(err)}
}
