package disk

import "redraft/api"

// armed: how many changing calls are still to come, the one that crashes counted (0: the disk is not armed), and how many loose bytes of each file stay then.
type armed struct {
	steps, keep int
}

// Arm: the steps-th call of Append, Sync, Cut or Remove from now on crashes; keep unsynced bytes of each file stay then.
func (d *Disk) Arm(steps, keep int) api.Errno {
	if d.down {
		return api.ErrDown
	}
	if steps == 0 {
		d.armed = armed{}
		return api.OK
	}
	if steps < 0 || keep < 0 {
		return api.ErrPlace
	}
	d.armed = armed{steps, keep}
	return api.OK
}

// Crash: now.
func (d *Disk) Crash(keep int) api.Errno {
	if d.down {
		return api.ErrDown
	}
	if keep < 0 {
		return api.ErrPlace
	}
	d.crash(keep)
	return api.OK
}

// Up: it runs again, unarmed, with what is left.
func (d *Disk) Up() api.Errno {
	d.down = false
	d.armed = armed{}
	return api.OK
}

// due: counts a changing call, and tells whether it is the one that crashes.
func (d *Disk) due() bool {
	if d.armed.steps == 0 {
		return false
	}
	d.armed.steps--
	return d.armed.steps == 0
}

// giveUp: the crash for which the disk was armed, as the call in which it comes answers it.
func (d *Disk) giveUp() api.Errno {
	d.crash(d.armed.keep)
	return api.ErrDown
}

// crash: what is loose is lost but for keep bytes of each file, and the disk is down.
func (d *Disk) crash(keep int) {
	for name, f := range d.files {
		f.lose(keep)
		if len(f.bytes) == 0 {
			delete(d.files, name)
		}
	}
	d.down = true
	d.armed = armed{}
}
