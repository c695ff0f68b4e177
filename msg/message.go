package msg

import "redraft/api"

// field: a part of a message's bytes: how it is read into a message that has all fields ahead of it, and how it is written behind them.
type field struct {
	read  func(r *reader, m *api.Msg)
	write func(b []byte, m api.Msg) []byte
}

// fieldsOf: what stands behind a message's code and client.
func fieldsOf(code api.MsgCode) []field {
	rev := field{readRev, appendRev}
	seq := field{readSeq, appendSeq}
	command := field{readCommand, appendOp}
	table := [...][]field{
		api.Hello:  {rev},
		api.Submit: {rev, command},
		api.Ack:    {rev, seq},
		api.Cast:   {rev, command},
	}
	return table[code]
}

// message: all bytes that are left, as a message.
func (r *reader) message() api.Msg {
	var m api.Msg
	m.Code = api.MsgCode(r.between(int(api.Hello), int(api.Cast), api.ErrCode))
	m.Client = r.between(1, api.MaxClients, api.ErrField)
	for _, f := range fieldsOf(m.Code) {
		f.read(r, &m)
	}
	r.end()
	return m
}

// appendMessage: b and the bytes of m, which may travel.
func appendMessage(b []byte, m api.Msg) []byte {
	b = appendNumbers(b, int(m.Code), m.Client)
	for _, f := range fieldsOf(m.Code) {
		b = f.write(b, m)
	}
	return b
}

func readRev(r *reader, m *api.Msg) { m.Rev = r.between(firstRev(m.Code), maxRev, api.ErrField) }

func appendRev(b []byte, m api.Msg) []byte { return appendNumbers(b, m.Rev) }

func readSeq(r *reader, m *api.Msg) { m.Seq = r.between(1, api.MaxOps, api.ErrField) }

func appendSeq(b []byte, m api.Msg) []byte { return appendNumbers(b, m.Seq) }

// readCommand: whose the command is, is asked behind the command's own faults, of which bytes behind it are one.
func readCommand(r *reader, m *api.Msg) {
	first := r.at
	m.Op = r.command()
	r.refuse(foreign(*m), first, api.ErrField)
}

func appendOp(b []byte, m api.Msg) []byte { return appendCommand(b, m.Op) }
