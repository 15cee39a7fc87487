package pack

import (
	"cmp"
	"slices"
)

// bundle is some numbers, one of them perhaps several times, and what they weigh together.
type bundle struct {
	weight  int
	numbers []int
}

// lengthsFor are the lengths, up to a longest one, with which numbers of such weights cost the fewest bits; those without weight have none.
// With two numbers or more they are full; one alone has the length 1.
func lengthsFor(weights []int, longest int) []int {
	lengths := make([]int, len(weights))
	singles := weighing(weights)
	if len(singles) == 1 {
		lengths[singles[0].numbers[0]] = 1
		return lengths
	}
	// Each time a number is in the lightest bundles makes its code one bit longer; pairing them as often as a code has bits lets none have more.
	row := singles
	for range longest - 1 {
		row = slices.Concat(singles, pairs(row))
		slices.SortStableFunc(row, func(a, b bundle) int { return cmp.Compare(a.weight, b.weight) })
	}
	for _, b := range row[:max(2*len(singles)-2, 0)] {
		for _, number := range b.numbers {
			lengths[number]++
		}
	}
	return lengths
}

// weighing are the numbers that have a weight, the lightest first.
func weighing(weights []int) []bundle {
	var singles []bundle
	for number, weight := range weights {
		if weight > 0 {
			singles = append(singles, bundle{weight, []int{number}})
		}
	}
	slices.SortStableFunc(singles, func(a, b bundle) int { return cmp.Compare(a.weight, b.weight) })
	return singles
}

// pairs puts each two bundles into one; one that is left over is left out.
func pairs(row []bundle) []bundle {
	var out []bundle
	for i := 1; i < len(row); i += 2 {
		out = append(out, bundle{row[i-1].weight + row[i].weight, slices.Concat(row[i-1].numbers, row[i].numbers)})
	}
	return out
}
