package search

import (
	"slices"

	"redraft/api"
	"redraft/desk"
)

// Run: all matches in a desk's text replaced, by deletes and inserts of the desk; the commands that were made.
func (p *Pattern) Run(d *desk.Desk, with string) ([]api.Op, error) {
	if d == nil {
		return nil, fault(0, api.ErrHandle)
	}
	plan, e := p.Plan(d.Text(), with)
	if e != api.OK {
		return nil, fault(0, e)
	}
	var made []api.Op
	for _, s := range plan {
		ops, err := splice(d, s)
		made = append(made, ops...)
		if err != nil {
			return made, fault(len(made), err)
		}
	}
	return made, nil
}

func fault(at int, err error) error {
	return &api.Fault{Call: "Run", At: at, Err: err}
}

// splice does one splice at the desk: the commands that were made, and the error of the one that was refused.
func splice(d *desk.Desk, s api.Splice) (made []api.Op, err error) {
	if s.Del != 0 {
		o, err := d.Delete(s.At, s.Del)
		if err != nil {
			return nil, err
		}
		made = append(made, o)
	}
	at := s.At
	for piece := range slices.Chunk([]rune(s.Ins), api.MaxText) {
		o, err := d.Insert(at, string(piece))
		if err != nil {
			return made, err
		}
		made = append(made, o)
		at += len(piece)
	}
	return made, nil
}
