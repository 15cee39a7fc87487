// Package codes: the codes of packed bytes, and what the symbols and distances of copies stand for.
package codes

import "math/bits"

// Longest is how many bits a code has at most.
const Longest = 15

// The kinds of blocks.
const (
	StoredBlock  = 0
	FixedBlock   = 1
	DynamicBlock = 2
)

// Symbols that are no bytes.
const (
	End       = 256
	FirstCopy = 257
	LastCopy  = 285
)

// LastDistance is the highest code number of a distance.
const LastDistance = 29

// How many bytes a copy has, and how far back it goes at most.
const (
	ShortestCopy = 3
	LongestCopy  = 258
	Farthest     = 32768
)

// Code numbers of lengths that stand for several lengths.
const (
	LengthAgain = 16
	FewNoughts  = 17
	ManyNoughts = 18
)

// LengthOrder is the order in which the lengths of the codes of lengths come.
func LengthOrder() [19]int {
	return [19]int{16, 17, 18, 0, 8, 7, 9, 6, 10, 5, 11, 4, 12, 3, 13, 2, 14, 1, 15}
}

// Code is a code's bits as a number, the highest bit first, and how many they are.
// It is small so that a map finds it fast.
type Code struct {
	Bits, Length uint16
}

// Each hands on the codes of some lengths, by length and then by number, rising.
func Each(lengths []int, do func(number int, c Code)) {
	next := Code{}
	for range Longest {
		next = Code{Bits: next.Bits << 1, Length: next.Length + 1}
		for number, length := range lengths {
			if length == int(next.Length) {
				do(number, next)
				next.Bits++
			}
		}
	}
}

// Full tells whether the codes of the lengths begin all strings of bits, and none begins another.
func Full(lengths []int) bool {
	sum := 0
	for _, length := range lengths {
		if length > 0 {
			sum += 1 << (Longest - length)
		}
	}
	return sum == 1<<Longest
}

// FixedSymbols are the lengths of the symbols in a block of kind 1.
func FixedSymbols() []int {
	lengths := make([]int, 288)
	for number := range lengths {
		switch {
		case number < 144:
			lengths[number] = 8
		case number < 256:
			lengths[number] = 9
		case number < 280:
			lengths[number] = 7
		default:
			lengths[number] = 8
		}
	}
	return lengths
}

// FixedDistances are the lengths of the distances in a block of kind 1.
func FixedDistances() []int {
	lengths := make([]int, LastDistance+1)
	for number := range lengths {
		lengths[number] = 5
	}
	return lengths
}

// CopyLength is the least length that a symbol of a copy stands for, and how many extra bits it has.
func CopyLength(symbol int) (least, extra int) {
	i := symbol - FirstCopy
	switch {
	case symbol == LastCopy:
		return LongestCopy, 0
	case i < 8:
		return i + ShortestCopy, 0
	}
	extra = i/4 - 1
	return (4+i%4)<<extra + ShortestCopy, extra
}

// CopyDistance is the least distance that a distance's number stands for, and how many extra bits it has.
func CopyDistance(number int) (least, extra int) {
	if number < 4 {
		return number + 1, 0
	}
	extra = number/2 - 1
	return (2+number%2)<<extra + 1, extra
}

// CopySymbol is the symbol of a copy of some length.
func CopySymbol(length int) int {
	if length == LongestCopy {
		return LastCopy
	}
	above := length - ShortestCopy
	extra := max(bits.Len(uint(above))-3, 0)
	return FirstCopy + 4*extra + above>>extra
}

// DistanceNumber is the number of a distance.
func DistanceNumber(distance int) int {
	above := distance - 1
	extra := max(bits.Len(uint(above))-2, 0)
	return 2*extra + above>>extra
}
