package wal

import (
	"fairlead/api"
	"fairlead/disk"
	"fairlead/record"
)

// load reads what is kept.
func (w *Wal) load() api.Errno {
	b, e := readBytes(w.disk.Read, w.place.from, headSize)
	if e != api.OK {
		return e
	}
	h, ok := readHead(w.place, b)
	if !ok {
		return api.OK
	}
	b, e = readBytes(w.disk.Read, h.start(w.place), h.length)
	if e != api.OK {
		return e
	}
	l, n := record.Scan(h.turn, b)
	if n != h.length {
		// No log wrote this: it has no records, but its head has its turn.
		w.head = head{turn: h.turn}
		return api.OK
	}
	w.head, w.records = h, l
	return api.OK
}

// keep has records kept behind others, whose head that is.
func (w *Wal) keep(h head, others []api.Record, l []api.Record) api.Errno {
	h, e := w.lay(h, l)
	if e != api.OK {
		*w = Wal{disk: w.disk, dead: true}
		return e
	}
	w.head = h
	w.records = append(others, copies(l)...)
	return api.OK
}

// lay writes records behind those that a head tells of, then the head that tells of them, too, and answers it. A stop leaves the old head or the new one: what the old one tells of stays as it was, and what the new one tells of is flushed ahead of it.
func (w *Wal) lay(h head, l []api.Record) (head, api.Errno) {
	at := h.start(w.place) + h.length/api.Sector
	// The sector in which the others end is written again, with their bytes where they were: so half of it harms none.
	b, e := readBytes(w.disk.Read, at, h.length%api.Sector)
	if e != api.OK {
		return head{}, e
	}
	for _, r := range l {
		f, e := record.Frame(h.turn, r)
		if e != api.OK {
			return head{}, e
		}
		b = append(b, f...)
		h.length += len(f)
	}
	if e := flushBytes(w.disk, at, b); e != api.OK {
		return head{}, e
	}
	b, e = h.frame(w.place)
	if e != api.OK {
		return head{}, e
	}
	return h, flushBytes(w.disk, w.place.from, b)
}

// flushBytes copies bytes into sectors, from one on, and flushes them.
func flushBytes(d *disk.Disk, at int, b []byte) api.Errno {
	for len(b) > 0 {
		s := make([]byte, api.Sector)
		n := copy(s, b)
		if e := d.Write(at, s); e != api.OK {
			return e
		}
		at++
		b = b[n:]
	}
	return d.Flush()
}

// readBytes reads so many bytes, from the beginning of a sector on.
func readBytes(read func(at int) ([]byte, api.Errno), at int, n int) ([]byte, api.Errno) {
	b := make([]byte, 0, n)
	for len(b) < n {
		s, e := read(at)
		if e != api.OK {
			return nil, e
		}
		b = append(b, s[:min(len(s), n-len(b))]...)
		at++
	}
	return b, api.OK
}
