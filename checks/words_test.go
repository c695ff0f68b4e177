package checks

import (
	"errors"
	"testing"

	"redraft/api"
)

// DOC.md, 'Words': the limits.
func TestLimits(t *testing.T) {
	for _, c := range []struct {
		name      string
		got, want int
	}{
		{"MaxPlace", api.MaxPlace, 1048576}, {"MaxRanges", api.MaxRanges, 32768}, {"MaxText", api.MaxText, 256}, {"MaxHid", api.MaxHid, 1048576},
		{"MaxClients", api.MaxClients, 8}, {"MaxCells", api.MaxCells, 4096}, {"MaxOps", api.MaxOps, 1024}, {"MaxPayload", api.MaxPayload, 131072},
		{"Width", api.Width, 64}, {"Resend", api.Resend, 3}, {"Poll", api.Poll, 4}, {"MaxFlight", api.MaxFlight, 1048576},
		{"MaxScript", api.MaxScript, 1048576}, {"MaxSteps", api.MaxSteps, 16384}, {"MaxCols", api.MaxCols, 1024}, {"MaxRows", api.MaxRows, 1024},
		{"Tab", api.Tab, 4}, {"MaxMarks", api.MaxMarks, 256}, {"MaxName", api.MaxName, 32}, {"MaxPattern", api.MaxPattern, 256},
		{"MaxClip", api.MaxClip, 4096}, {"MaxDiff", api.MaxDiff, 2048},
	} {
		if c.got != c.want {
			t.Errorf("%s = %d, want %d", c.name, c.got, c.want)
		}
	}
}

// DOC.md, 'Words', and the chapters' lists of errors, as far as the layers are built: the numbers.
func TestErrorNumbers(t *testing.T) {
	for _, c := range []struct {
		got  api.Errno
		want int
	}{
		{api.OK, 0}, {api.ErrOther, 1}, {api.ErrLimits, 2}, {api.ErrHandle, 3},
		{api.ErrUtf8, 10}, {api.ErrRune, 11}, {api.ErrPlace, 12}, {api.ErrQuote, 13}, {api.ErrLong, 14}, {api.ErrEmpty, 15}, {api.ErrWalk, 16},
		{api.ErrRange, 20}, {api.ErrMany, 21}, {api.ErrOrder, 22}, {api.ErrInside, 23}, {api.ErrGrow, 24},
		{api.ErrBelow, 30}, {api.ErrAbove, 31}, {api.ErrRuns, 32},
		{api.ErrKind, 40}, {api.ErrID, 41}, {api.ErrExtra, 42}, {api.ErrNone, 43}, {api.ErrSyntax, 44}, {api.ErrClash, 50},
		{api.ErrUnknown, 60}, {api.ErrTwice, 61}, {api.ErrTurned, 62}, {api.ErrTarget, 63},
		{api.ErrStack, 70}, {api.ErrOps, 80}, {api.ErrCells, 81}, {api.ErrUser, 82},
		{api.ErrShort, 90}, {api.ErrMark, 91}, {api.ErrBig, 92}, {api.ErrSum, 93}, {api.ErrTail, 94},
		{api.ErrCode, 100}, {api.ErrNumber, 101}, {api.ErrCut, 102}, {api.ErrRest, 103}, {api.ErrField, 104},
		{api.ErrDown, 110}, {api.ErrFull, 111}, {api.ErrFile, 112}, {api.ErrName, 113},
		{api.ErrClosed, 120}, {api.ErrIndex, 121}, {api.ErrOld, 130}, {api.ErrDouble, 131}, {api.ErrFar, 132},
		{api.ErrStopped, 140}, {api.ErrBase, 141}, {api.ErrSeq, 142}, {api.ErrStale, 143}, {api.ErrClient, 144}, {api.ErrTurn, 150},
		{api.ErrPacket, 160}, {api.ErrFlight, 161}, {api.ErrSpoilt, 162},
		{api.ErrNode, 170}, {api.ErrJoined, 171}, {api.ErrNotJoined, 172}, {api.ErrUp, 173}, {api.ErrForged, 174}, {api.ErrStep, 175}, {api.ErrSteps, 243}, {api.ErrCols, 190},
		{api.ErrTitle, 200}, {api.ErrThere, 201}, {api.ErrMarks, 202},
		{api.ErrPattern, 210}, {api.ErrRepeat, 211},
		{api.ErrFormat, 220}, {api.ErrVersion, 221}, {api.ErrCount, 222}, {api.ErrApart, 223},
	} {
		if int(c.got) != c.want {
			t.Errorf("error %d, want %d", c.got, c.want)
		}
	}
}

// Chapters 4 and 10: the numbers of kinds and codes, which are written as they are.
func TestKindsAndCodes(t *testing.T) {
	if kinds := [4]api.Kind{api.Ins, api.Hide, api.Show, api.Status}; kinds != [4]api.Kind{1, 2, 3, 4} {
		t.Errorf("kinds %v", kinds)
	}
	if codes := [4]api.MsgCode{api.Hello, api.Submit, api.Ack, api.Cast}; codes != [4]api.MsgCode{1, 2, 3, 4} {
		t.Errorf("codes %v", codes)
	}
}

// Chapter 17: the kinds of a world's steps.
func TestStepKinds(t *testing.T) {
	for i, kind := range []api.StepKind{
		api.StepJoin, api.StepInsert, api.StepDelete, api.StepMove, api.StepUndo, api.StepRedo, api.StepUndoOp, api.StepRedoOp, api.StepTick,
		api.StepDeliver, api.StepDrop, api.StepCopy, api.StepSpoil, api.StepJunk, api.StepArm, api.StepBoot, api.StepView, api.StepSettle,
	} {
		if int(kind) != i+1 {
			t.Errorf("kind %d, want %d", kind, i+1)
		}
	}
}

// DOC.md, 'Words': what Errno, Fault and Code answer.
func TestErrors(t *testing.T) {
	if got := api.ErrPlace.Error(); got != "redraft: error 12" {
		t.Errorf("Error() = %q", got)
	}
	inner := &api.Fault{Call: "Append", At: 3, Err: api.ErrWalk}
	outer := &api.Fault{Call: "Insert", At: 0, Err: inner}
	if got := outer.Error(); got != "Insert at 0: Append at 3: redraft: error 16" {
		t.Errorf("Error() = %q", got)
	}
	if outer.Unwrap() != error(inner) || !errors.Is(outer, api.ErrWalk) {
		t.Errorf("Unwrap does not reach what lies inside")
	}
	for _, c := range []struct {
		err  error
		want api.Errno
	}{
		{nil, api.OK}, {api.ErrRune, api.ErrRune}, {outer, api.ErrWalk}, {errors.New("x"), api.ErrOther}, {&api.Fault{Err: errors.New("x")}, api.ErrOther},
	} {
		if got := api.Code(c.err); got != c.want {
			t.Errorf("Code(%v) = %d, want %d", c.err, got, c.want)
		}
	}
}
