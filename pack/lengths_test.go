package pack

import (
	"container/heap"
	"math/rand"
	"slices"
	"sort"
	"testing"

	"mosaic/codes"
)

type weightHeap struct{ sort.IntSlice }

func (h *weightHeap) Push(x any) { h.IntSlice = append(h.IntSlice, x.(int)) }

func (h *weightHeap) Pop() any {
	last := h.IntSlice[len(h.IntSlice)-1]
	h.IntSlice = h.IntSlice[:len(h.IntSlice)-1]
	return last
}

// leastBits is how many bits numbers of such weights cost at least, if codes may be as long as they like.
func leastBits(weights []int) int {
	h := &weightHeap{}
	for _, w := range weights {
		if w > 0 {
			heap.Push(h, w)
		}
	}
	sum := 0
	for h.Len() > 1 {
		both := heap.Pop(h).(int) + heap.Pop(h).(int)
		sum += both
		heap.Push(h, both)
	}
	return sum
}

func wantLengths(t *testing.T, weights []int, longest int) []int {
	t.Helper()
	lengths := lengthsFor(weights, longest)
	if len(lengths) != len(weights) || slices.Max(lengths) > longest || !codes.Full(lengths) {
		t.Fatalf("lengthsFor(%v, %d) = %v", weights, longest, lengths)
	}
	for number, weight := range weights {
		if (weight > 0) != (lengths[number] > 0) {
			t.Fatalf("lengthsFor(%v, %d) = %v: at %d", weights, longest, lengths, number)
		}
	}
	return lengths
}

func TestLengthsAreBest(t *testing.T) {
	r := rand.New(rand.NewSource(1))
	for range 500 {
		weights := make([]int, 2+r.Intn(285))
		for i := range weights {
			weights[i] = r.Intn(100) * r.Intn(2)
		}
		weights[0], weights[1] = 1, 7
		lengths := wantLengths(t, weights, codes.Longest)
		if got, least := bitsOf(weights, lengths), leastBits(weights); got != least {
			t.Fatalf("of %v: %d bits, %d would do", weights, got, least)
		}
	}
}

// TestLengthsAreShortEnough: with these weights codes would be longer if they might.
func TestLengthsAreShortEnough(t *testing.T) {
	weights := []int{1, 1}
	for len(weights) < 40 {
		weights = append(weights, weights[len(weights)-2]+weights[len(weights)-1])
	}
	for count := 2; count <= 40; count++ {
		wantLengths(t, weights[:count], codes.Longest)
		wantLengths(t, weights[:count], 6)
		if count <= 19 {
			wantLengths(t, weights[:count], longestLengthCode)
		}
	}
	wantLengths(t, slices.Repeat([]int{1}, 128), 7)
	// By hand: with at most two bits all four have two.
	if lengths := lengthsFor([]int{1, 1, 2, 100}, 2); !slices.Equal(lengths, []int{2, 2, 2, 2}) {
		t.Error(lengths)
	}
	if lengths := lengthsFor([]int{1, 1, 2, 100}, 3); !slices.Equal(lengths, []int{3, 3, 2, 1}) {
		t.Error(lengths)
	}
}

func TestFewLengths(t *testing.T) {
	if lengths := lengthsFor(make([]int, 30), 15); !slices.Equal(lengths, make([]int, 30)) {
		t.Errorf("no weight: %v", lengths)
	}
	if lengths := lengthsFor([]int{0, 0, 9}, 15); !slices.Equal(lengths, []int{0, 0, 1}) {
		t.Errorf("one weight: %v", lengths)
	}
	for _, c := range []struct{ weights, want []int }{
		{[]int{0, 0, 0}, []int{1, 1, 0}},
		{[]int{5, 0, 0}, []int{5, 1, 0}},
		{[]int{0, 0, 5}, []int{1, 0, 5}},
		{[]int{0, 2, 5}, []int{0, 2, 5}},
	} {
		handed := slices.Clone(c.weights)
		if got := atLeastTwo(handed); !slices.Equal(got, c.want) || !slices.Equal(handed, c.weights) {
			t.Errorf("atLeastTwo(%v) = %v, and leaves %v", c.weights, got, handed)
		}
	}
}
