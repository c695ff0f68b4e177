package server

import (
	"redraft/api"
	"redraft/desk"
	"redraft/disk"
	"redraft/journal"
	"redraft/msg"
	"redraft/op"
)

// fileName: of the journal.
const fileName = "journal"

// Boot: a server over a disk: the journal is opened (recovered) and replayed.
func Boot(d *disk.Disk, lim api.Limits) (*Server, error) {
	if d == nil {
		return nil, fault("Boot", 0, api.ErrHandle)
	}
	if !isRoom(lim) {
		return nil, fault("Boot", 0, api.ErrLimits)
	}
	j, records, _, err := journal.Open(d, fileName)
	if err != nil {
		return nil, fault("Boot", 0, err)
	}
	s := &Server{Replica: *desk.NewReplica(), lim: lim, journal: j}
	for k, record := range records {
		if e := s.replay(record); e != api.OK {
			return nil, fault("Boot", k, e)
		}
	}
	return s, nil
}

// isRoom: may a room have these limits?
func isRoom(lim api.Limits) bool {
	return 1 <= lim.Clients && lim.Clients <= api.MaxClients &&
		1 <= lim.Cells && lim.Cells <= api.MaxCells &&
		1 <= lim.Ops && lim.Ops <= api.MaxOps
}

// replay: the next record of the journal becomes the next command, which is durable.
func (s *Server) replay(record []byte) api.Errno {
	o, _, e := msg.DecodeOp(record)
	if e != api.OK {
		return e
	}
	author, number := o.ID[0], o.ID[1]
	switch {
	case author > s.lim.Clients:
		return api.ErrClient
	case number != s.Last(author)+1:
		return api.ErrSeq
	case number > s.lim.Ops:
		return api.ErrOps
	case op.Width(o) > s.cellsLeft(author):
		return api.ErrCells
	}
	if _, err := s.Put(s.Len(), o); err != nil {
		return api.Code(err)
	}
	s.enter(o)
	return api.OK
}
