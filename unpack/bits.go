package unpack

import (
	"mosaic/api"
	"mosaic/fault"
)

// bitReader reads packed bytes from the first bit on, and gives up where they end.
type bitReader struct {
	packed string
	place  int // how many bits have been read
}

func (r *bitReader) bit() int {
	if r.place/8 >= len(r.packed) {
		panic(fault.Fault(api.ErrDeflate))
	}
	bit := r.packed[r.place/8] >> (r.place % 8) & 1
	r.place++
	return int(bit)
}

// number reads a number of some bits, the lowest one first.
func (r *bitReader) number(bits int) int {
	n := 0
	for i := range bits {
		n |= r.bit() << i
	}
	return n
}

// used is how many bytes have been read, the last one perhaps in part.
func (r *bitReader) used() int { return (r.place + 7) / 8 }

func (r *bitReader) skipRestOfByte() { r.place = 8 * r.used() }

// bytes reads whole bytes; the place must be a byte's beginning.
func (r *bitReader) bytes(count int) string {
	start := r.place / 8
	if count > len(r.packed)-start {
		panic(fault.Fault(api.ErrDeflate))
	}
	r.place += 8 * count
	return r.packed[start : start+count]
}
