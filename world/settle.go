package world

import "redraft/api"

// Bound: how many rounds of a fair tail suffice now.
func (w *World) Bound() int {
	most := 0
	for _, x := range w.nodes() {
		most = max(most, x.pending())
	}
	return 9 + 2*most
}

// Settle: a fair tail: rounds until nothing is pending and all joined clients know all; how many it took.
func (w *World) Settle() (int, api.Errno) {
	w.calm()
	bound := w.Bound()
	for rounds := range bound {
		if w.isSettled() {
			return rounds, api.OK
		}
		w.round()
	}
	if !w.isSettled() {
		return bound, api.ErrOther
	}
	return bound, api.OK
}

// calm: from here on the server runs, and its disk does not give up.
func (w *World) calm() {
	if w.server.isUp() {
		w.disk.Arm(0, 0)
		return
	}
	w.reboot(0, 0)
}

// isSettled: all that was made is durable, and has come to everybody.
func (w *World) isSettled() bool {
	durable := w.server.Durable()
	for _, x := range w.nodes() {
		if !x.isUp() || x.pending() > 0 || x.known() != durable {
			return false
		}
	}
	return w.server.Revision() == durable
}

// round: all that is in flight comes, in the order in which it began; then all nodes tick, the server first.
func (w *World) round() {
	for _, f := range w.net.Flights() {
		w.deliver(f.Number)
	}
	for number := range w.lim.Clients + 1 {
		w.tick(number) // nothing happens where nobody has joined
	}
}
