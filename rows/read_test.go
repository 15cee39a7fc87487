package rows

import (
	"slices"
	"testing"

	"mosaic/api"
)

func TestEachSample(t *testing.T) {
	for _, c := range []struct {
		row          string
		depth, count int
		want         []int
	}{
		{"\xa0", 1, 3, []int{1, 0, 1}},
		{"\x00\x80", 1, 9, []int{0, 0, 0, 0, 0, 0, 0, 0, 1}},
		{"\x1b\xff", 2, 5, []int{0, 1, 2, 3, 3}},
		{"\x9a\xb7", 4, 3, []int{9, 10, 11}},
		{"\x00\xff\x07", 8, 3, []int{0, 255, 7}},
		{"\x01\x02\xff\xfe", 16, 2, []int{258, 65534}},
	} {
		var got []int
		eachSample([]byte(c.row), c.depth, c.count, func(sample int) { got = append(got, sample) })
		if !slices.Equal(got, c.want) {
			t.Errorf("%x of depth %d: %v, want %v", c.row, c.depth, got, c.want)
		}
	}
}

// TestPassesBeginAnew: a pass's first row has none above it, though the pass ahead had rows.
func TestPassesBeginAnew(t *testing.T) {
	m := api.Image{Width: 2, Height: 2, Depth: 8, Passes: true}
	got := Samples(m, "\x02\x09\x02\x05\x02\x03\x04")
	if want := []int{9, 5, 3, 4}; !slices.Equal(got, want) {
		t.Errorf("%v, want %v", got, want)
	}
}
