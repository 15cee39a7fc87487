package unpack

import (
	"mosaic/api"
	"mosaic/codes"
	"mosaic/fault"
)

// table finds the number that a code stands for.
type table struct {
	numbers           map[codes.Code]int
	shortest, longest uint16
}

func newTable(lengths []int) table {
	t := table{numbers: make(map[codes.Code]int, len(lengths))}
	codes.Each(lengths, func(number int, c codes.Code) {
		if len(t.numbers) == 0 {
			t.shortest = c.Length
		}
		t.longest = c.Length
		t.numbers[c] = number
	})
	return t
}

// read reads one code, and gives up if the bits begin none.
func (t table) read(in *bitReader) int {
	c := codes.Code{}
	for c.Length < t.longest {
		c = codes.Code{Bits: c.Bits<<1 | uint16(in.bit()), Length: c.Length + 1}
		if c.Length < t.shortest {
			continue
		}
		if number, ok := t.numbers[c]; ok {
			return number
		}
	}
	panic(fault.Fault(api.ErrDeflate))
}

// blockTables are the codes of one block.
type blockTables struct {
	symbols, distances table
}

func fixedTables() blockTables {
	return blockTables{newTable(codes.FixedSymbols()), newTable(codes.FixedDistances())}
}
