package unpack

import (
	"mosaic/api"
	"mosaic/codes"
	"mosaic/fault"
)

// readTables reads the codes with which a block of kind 2 begins.
func readTables(in *bitReader) blockTables {
	symbolCount := in.number(5) + codes.FirstCopy
	distanceCount := in.number(5) + 1
	if symbolCount > codes.LastCopy+1 || distanceCount > codes.LastDistance+1 {
		panic(fault.Fault(api.ErrDeflate))
	}
	lengths := readLengths(in, readLengthTable(in), symbolCount+distanceCount)
	symbols, distances := lengths[:symbolCount], lengths[symbolCount:]
	if symbols[codes.End] == 0 || !codes.Full(symbols) || !distancesMayBe(distances) {
		panic(fault.Fault(api.ErrDeflate))
	}
	return blockTables{newTable(symbols), newTable(distances)}
}

// readLengthTable reads the count of the codes of lengths, and those.
func readLengthTable(in *bitReader) table {
	order := codes.LengthOrder()
	lengths := make([]int, len(order))
	count := in.number(4) + 4
	for i := range count {
		lengths[order[i]] = in.number(3)
	}
	if !codes.Full(lengths) {
		panic(fault.Fault(api.ErrDeflate))
	}
	return newTable(lengths)
}

// readLengths reads the lengths of symbols and distances, which are one list: what is told to come again may go over from those to these.
func readLengths(in *bitReader, t table, count int) []int {
	lengths := make([]int, 0, count)
	for len(lengths) < count {
		length, times := 0, 0
		switch number := t.read(in); number {
		case codes.LengthAgain:
			if len(lengths) == 0 {
				panic(fault.Fault(api.ErrDeflate))
			}
			length, times = lengths[len(lengths)-1], 3+in.number(2)
		case codes.FewNoughts:
			times = 3 + in.number(3)
		case codes.ManyNoughts:
			times = 11 + in.number(7)
		default:
			length, times = number, 1
		}
		if times > count-len(lengths) {
			panic(fault.Fault(api.ErrDeflate))
		}
		for range times {
			lengths = append(lengths, length)
		}
	}
	return lengths
}

// distancesMayBe: a block without copies needs no distance, and one distance alone needs but one bit.
func distancesMayBe(lengths []int) bool {
	count, sum := 0, 0
	for _, length := range lengths {
		if length > 0 {
			count++
			sum += length
		}
	}
	return count == 0 || count == 1 && sum == 1 || codes.Full(lengths)
}
