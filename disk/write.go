package disk

import "fairlead/api"

// sector is what a sector has.
type sector [api.Sector]byte

// write is a write to a sector.
type write struct {
	at    int
	bytes sector
}

// How a write is done.
const (
	none      = 0
	whole     = 1
	firstHalf = 2
	lastHalf  = 3
)

// part answers which bytes are done of a write: from up to, not with, to.
func part(how int) (from, to int) {
	switch how {
	case whole:
		return 0, api.Sector
	case firstHalf:
		return 0, api.Sector / 2
	case lastHalf:
		return api.Sector / 2, api.Sector
	}
	return 0, 0
}

// latest answers what a sector has, with what waits done. The last write to it is the one that tells: each one is of a whole sector.
func (d *Disk) latest(at int) sector {
	for i := len(d.waits) - 1; i >= 0; i-- {
		if d.waits[i].at == at {
			return d.waits[i].bytes
		}
	}
	return d.sectors[at]
}

// settle does what waits, in order, write i as how tells of i. None waits any more.
func (d *Disk) settle(how func(i int) int) {
	for i, w := range d.waits {
		from, to := part(how(i))
		copy(d.sectors[w.at][from:to], w.bytes[from:to])
	}
	clear(d.waits) // what was not done is not to stay behind the row's end
	d.waits = d.waits[:0]
}
