package disk

import "fairlead/api"

// endless is how many writes and flushes find power where Arm asked for no end of it.
const endless = -1

// given tells whether New gave the disk: it gives none without a sector.
func (d *Disk) given() bool {
	return d != nil && len(d.sectors) > 0
}

// runs answers why nothing can be asked of the disk, if so.
func (d *Disk) runs() api.Errno {
	if !d.given() {
		return api.ErrNil
	}
	if !d.power {
		return api.ErrDead
	}
	return api.OK
}

// reaches answers why nothing can be asked of a sector, if so.
func (d *Disk) reaches(at int) api.Errno {
	if e := d.runs(); e != api.OK {
		return e
	}
	if at < 0 || at >= len(d.sectors) {
		return api.ErrSector
	}
	return api.OK
}

// findsPower tells whether a write or a flush finds power, and counts it. It comes behind all other refusals, as what is refused otherwise does not count.
func (d *Disk) findsPower() bool {
	switch {
	case d.left == 0:
		d.power = false
	case d.left > 0:
		d.left--
	}
	return d.power
}
