package pack

import "mosaic/codes"

// sink is what is done with each symbol and distance and their extra bits; its functions know where they write.
type sink struct {
	symbol, distance func(number, extra, bits int)
}

// eachSymbol hands on the symbols and distances of a part's steps, and the end.
func eachSymbol(part string, steps []step, to sink) {
	place := 0
	for _, s := range steps {
		if s.distance == 0 {
			to.symbol(int(part[place]), 0, 0)
		} else {
			symbol, distance := codes.CopySymbol(s.length), codes.DistanceNumber(s.distance)
			leastLength, lengthBits := codes.CopyLength(symbol)
			leastDistance, distanceBits := codes.CopyDistance(distance)
			to.symbol(symbol, s.length-leastLength, lengthBits)
			to.distance(distance, s.distance-leastDistance, distanceBits)
		}
		place += s.length
	}
	to.symbol(codes.End, 0, 0)
}

// tally is how often each symbol and distance comes, and how many extra bits they have in all.
type tally struct {
	symbols, distances []int
	extra              int
}

func tallyOf(part string, steps []step) tally {
	t := tally{symbols: make([]int, codes.LastCopy+1), distances: make([]int, codes.LastDistance+1)}
	eachSymbol(part, steps, sink{
		symbol:   func(number, _, bits int) { t.symbols[number]++; t.extra += bits },
		distance: func(number, _, bits int) { t.distances[number]++; t.extra += bits },
	})
	return t
}

// bits is how many bits all has with codes of these lengths.
func (t tally) bits(symbols, distances []int) int {
	return t.extra + bitsOf(t.symbols, symbols) + bitsOf(t.distances, distances)
}

func bitsOf(weights, lengths []int) int {
	sum := 0
	for number, weight := range weights {
		sum += weight * lengths[number]
	}
	return sum
}

// writer is a sink that writes with codes of these lengths.
func writer(w *bitWriter, symbols, distances []int) sink {
	return sink{symbol: codeWriter(w, symbols), distance: codeWriter(w, distances)}
}

func codeWriter(w *bitWriter, lengths []int) func(number, extra, bits int) {
	list := make([]codes.Code, len(lengths))
	codes.Each(lengths, func(number int, c codes.Code) { list[number] = c })
	return func(number, extra, bits int) {
		w.code(list[number])
		w.number(extra, bits)
	}
}
