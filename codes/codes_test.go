package codes

import "testing"

func TestCopySymbol(t *testing.T) {
	for length := ShortestCopy; length <= LongestCopy; length++ {
		symbol := CopySymbol(length)
		least, extra := CopyLength(symbol)
		if symbol < FirstCopy || symbol > LastCopy || length < least || length >= least+1<<extra {
			t.Errorf("length %d: symbol %d, from %d on with %d bits", length, symbol, least, extra)
		}
	}
	if CopySymbol(LongestCopy) != LastCopy {
		t.Error("the longest copy has extra bits")
	}
}

func TestDistanceNumber(t *testing.T) {
	for distance := 1; distance <= Farthest; distance++ {
		number := DistanceNumber(distance)
		least, extra := CopyDistance(number)
		if number < 0 || number > LastDistance || distance < least || distance >= least+1<<extra {
			t.Errorf("distance %d: number %d, from %d on with %d bits", distance, number, least, extra)
		}
	}
}
