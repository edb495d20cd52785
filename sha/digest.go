package sha

import "fairlead/num"

// digest is a digest on its way. Bytes wait till they are a block, so that parts are nowhere put together whole.
type digest struct {
	state [stateSize]uint32
	wait  []byte // less than a block
	size  int    // bytes taken so far
}

// take goes on by parts, one behind the other.
func (d *digest) take(parts ...[]byte) {
	for _, p := range parts {
		d.size += len(p)
		for len(p) > 0 {
			n := min(blockSize-len(d.wait), len(p))
			d.wait = append(d.wait, p[:n]...)
			p = p[n:]
			if len(d.wait) == blockSize {
				d.state = next(d.state, d.wait)
				d.wait = d.wait[:0]
			}
		}
	}
}

// bytes answers the state's words, the highest byte of each first.
func (d *digest) bytes() []byte {
	var b []byte
	for i := range stateSize {
		b = append(b, num.Put(uint64(d.state[i]), wordSize)...)
	}
	return b
}
