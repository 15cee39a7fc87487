// Package unpack: packed bytes, read. Its readers give up by a panic with a fault.Fault.
package unpack

import (
	"mosaic/api"
	"mosaic/codes"
	"mosaic/fault"
)

// sink is what is done with what a block brings; its functions know where they write.
type sink struct {
	needRoom func(count int)
	put      func(c byte)
	putAgain func(length, distance int)
}

// Bytes unpacks the packed bytes with which b begins, and tells how many bytes of b they are.
func Bytes(b string, limit int) (string, int) {
	in := &bitReader{packed: b}
	var out []byte
	to := sinkInto(&out, max(limit, 0))
	fixed := makeOnce(fixedTables)
	for last := false; !last; {
		last = in.number(1) == 1
		switch in.number(2) {
		case codes.StoredBlock:
			readStored(in, to)
		case codes.FixedBlock:
			readSymbols(in, fixed(), to)
		case codes.DynamicBlock:
			readSymbols(in, readTables(in), to)
		default:
			panic(fault.Fault(api.ErrDeflate))
		}
	}
	return string(out), in.used()
}

// makeOnce: the fixed codes cost far more to make than the ten bits that a block of them may have.
func makeOnce(build func() blockTables) func() blockTables {
	made := false
	var tables blockTables
	return func() blockTables {
		if !made {
			made, tables = true, build()
		}
		return tables
	}
}

func sinkInto(out *[]byte, limit int) sink {
	needRoom := func(count int) {
		if count > limit-len(*out) {
			panic(fault.Fault(api.ErrLimit))
		}
	}
	return sink{
		needRoom: needRoom,
		put: func(c byte) {
			needRoom(1)
			*out = append(*out, c)
		},
		putAgain: func(length, distance int) {
			if distance > len(*out) {
				panic(fault.Fault(api.ErrDeflate))
			}
			needRoom(length)
			// One by one, as the copy may reach into what it brings.
			for range length {
				*out = append(*out, (*out)[len(*out)-distance])
			}
		},
	}
}

func readStored(in *bitReader, to sink) {
	in.skipRestOfByte()
	count, turned := in.number(16), in.number(16)
	if count != turned^0xffff {
		panic(fault.Fault(api.ErrDeflate))
	}
	// Room is asked for ahead of the bytes: a block that is too large is so even if bytes are missing.
	to.needRoom(count)
	stored := in.bytes(count)
	for i := range count {
		to.put(stored[i])
	}
}

func readSymbols(in *bitReader, t blockTables, to sink) {
	for {
		symbol := t.symbols.read(in)
		switch {
		case symbol < codes.End:
			to.put(byte(symbol))
		case symbol == codes.End:
			return
		case symbol <= codes.LastCopy:
			length := withExtra(in, codes.CopyLength, symbol)
			distance := withExtra(in, codes.CopyDistance, t.distances.read(in))
			to.putAgain(length, distance)
		default:
			panic(fault.Fault(api.ErrDeflate))
		}
	}
}

// withExtra reads the extra bits of a copy's length or distance, and adds them to the least one.
func withExtra(in *bitReader, meaning func(number int) (least, extra int), number int) int {
	least, extra := meaning(number)
	return least + in.number(extra)
}
