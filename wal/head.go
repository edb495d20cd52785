package wal

import (
	"fairlead/api"
	"fairlead/record"
)

// How a head is written: as a record of that type, whose data is two numbers.
const (
	headType   = 1
	numberSize = 8
	byteBits   = 8
	// A write is done whole, by half, or not: what lies within a sector's first half is there as it was, or as it is to be, and never in between.
	headSize = api.Sector / 2
)

// placeBits is how many bits each number of a place has in a salt.
const placeBits = 32

// place is where a log lies: a sector for its head, then two halves.
type place struct {
	from, n int
}

// half answers how many sectors each half has.
func (p place) half() int {
	return (p.n - 1) / 2
}

// room answers how many bytes fit in a half.
func (p place) room() int {
	return p.half() * api.Sector
}

// salt answers what the head is salted with, so that the head of a log that lay otherwise is none here.
func (p place) salt() uint64 {
	return uint64(p.from)<<placeBits | uint64(p.n)
}

// head tells which records are kept: the first length bytes of the half whose turn it is. Turns go by one from half to half, and each one's records are salted with it.
type head struct {
	turn   uint64
	length int
}

// next answers the head of an empty log in the other half.
func (h head) next() head {
	return head{turn: h.turn + 1}
}

// start answers in which sector the half begins whose turn it is.
func (h head) start(p place) int {
	return p.from + 1 + int(h.turn%2)*p.half()
}

// frame writes a head.
func (h head) frame(p place) ([]byte, api.Errno) {
	data := append(put(h.turn), put(uint64(h.length))...)
	return record.Frame(p.salt(), api.Record{Type: headType, Data: data})
}

// readHead reads a head of a log that lies so, and tells whether it is one.
func readHead(p place, b []byte) (head, bool) {
	r, _, e := record.Next(p.salt(), b)
	if e != api.OK || r.Type != headType || len(r.Data) != 2*numberSize {
		return head{}, false
	}
	turn, length := get(r.Data[:numberSize]), get(r.Data[numberSize:])
	if length > uint64(p.room()) {
		return head{}, false
	}
	return head{turn, int(length)}, true
}

// put writes a number, its greatest byte ahead.
func put(v uint64) []byte {
	b := make([]byte, numberSize)
	for i := range b {
		b[numberSize-1-i] = byte(v >> (i * byteBits))
	}
	return b
}

// get reads a number.
func get(b []byte) uint64 {
	v := uint64(0)
	for _, x := range b {
		v = v<<byteBits | uint64(x)
	}
	return v
}
