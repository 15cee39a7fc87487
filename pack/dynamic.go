package pack

import "mosaic/codes"

// longestLengthCode is how many bits the codes of lengths have at most: their lengths are told in three bits.
const longestLengthCode = 7

// tables are the codes of a block of kind 2, as lengths: those of symbols, of distances, and of the numbers that tell those.
type tables struct {
	symbols, distances, numbers []int
}

func tablesFor(t tally) tables {
	made := tables{
		symbols:   lengthsFor(atLeastTwo(t.symbols), codes.Longest),
		distances: lengthsFor(t.distances, codes.Longest),
	}
	weights := make([]int, len(codes.LengthOrder()))
	eachLength(made.told(), func(number, _, _ int) { weights[number]++ })
	made.numbers = lengthsFor(atLeastTwo(weights), longestLengthCode)
	return made
}

// atLeastTwo gives weights to numbers without one while fewer than two have any, as the lengths of one alone are not full.
func atLeastTwo(weights []int) []int {
	out := make([]int, len(weights))
	copy(out, weights)
	count := len(weighing(out))
	for number := 0; count < 2; number++ {
		if out[number] == 0 {
			out[number] = 1
			count++
		}
	}
	return out
}

// counts is how many lengths of symbols and of distances are told: noughts at the end are left out, but not more than may be.
func (t tables) counts() (symbols, distances int) {
	return trimmed(t.symbols, codes.FirstCopy), trimmed(t.distances, 1)
}

func trimmed(lengths []int, least int) int {
	count := len(lengths)
	for count > least && lengths[count-1] == 0 {
		count--
	}
	return count
}

// told is the list of all lengths that are told.
func (t tables) told() []int {
	symbols, distances := t.counts()
	return append(append([]int{}, t.symbols[:symbols]...), t.distances[:distances]...)
}

// lengthCount is how many lengths of the numbers are told.
func (t tables) lengthCount() int {
	inOrder := make([]int, 0, len(t.numbers))
	for _, number := range codes.LengthOrder() {
		inOrder = append(inOrder, t.numbers[number])
	}
	return trimmed(inOrder, 4)
}

// bits is how many bits it takes to tell the tables.
func (t tables) bits() int {
	sum := 5 + 5 + 4 + 3*t.lengthCount()
	eachLength(t.told(), func(number, _, bits int) { sum += t.numbers[number] + bits })
	return sum
}

func (t tables) write(w *bitWriter) {
	symbols, distances := t.counts()
	count := t.lengthCount()
	w.number(symbols-codes.FirstCopy, 5)
	w.number(distances-1, 5)
	w.number(count-4, 4)
	order := codes.LengthOrder()
	for _, number := range order[:count] {
		w.number(t.numbers[number], 3)
	}
	eachLength(t.told(), codeWriter(w, t.numbers))
}

// eachLength hands on the numbers that tell some lengths, with their extra bits: runs as shortly as may be.
func eachLength(lengths []int, do func(number, extra, bits int)) {
	for i := 0; i < len(lengths); {
		length, run := lengths[i], runAt(lengths, i)
		i += run
		if length > 0 {
			do(length, 0, 0)
			run--
		}
		for run > 0 {
			run -= tellRun(length, run, do)
		}
	}
}

// runAt is how many lengths from this one on are the same.
func runAt(lengths []int, start int) int {
	run := 1
	for start+run < len(lengths) && lengths[start+run] == lengths[start] {
		run++
	}
	return run
}

// tellRun hands on one number for a piece of a run, and tells how long that is. A length above 0 has been told ahead of the run.
func tellRun(length, run int, do func(number, extra, bits int)) int {
	switch {
	case run < 3:
		do(length, 0, 0)
		return 1
	case length > 0:
		piece := min(run, 6)
		do(codes.LengthAgain, piece-3, 2)
		return piece
	case run < 11:
		do(codes.FewNoughts, run-3, 3)
		return run
	}
	piece := min(run, 138)
	do(codes.ManyNoughts, piece-11, 7)
	return piece
}
