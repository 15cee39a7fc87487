package rows

import (
	"slices"
	"testing"

	"mosaic/api"
)

func TestPacker(t *testing.T) {
	for _, c := range []struct {
		depth   int
		samples []int
		want    string
	}{
		{1, []int{1, 0, 1}, "\xa0"},
		{1, []int{0, 0, 0, 0, 0, 0, 0, 1, 1}, "\x01\x80"},
		{2, []int{0, 1, 2, 3, 3}, "\x1b\xc0"},
		{4, []int{9, 10, 11}, "\x9a\xb0"},
		{8, []int{0, 255, 7}, "\x00\xff\x07"},
		{16, []int{258, 65534}, "\x01\x02\xff\xfe"},
	} {
		row := make([]byte, len(c.want))
		put := packer(row, c.depth)
		for _, sample := range c.samples {
			put(sample)
		}
		if string(row) != c.want {
			t.Errorf("%v of depth %d: %x, want %x", c.samples, c.depth, row, c.want)
		}
	}
}

// TestRestoreOfFiltered: each filter, with points of one byte and of more, and rows that are shorter than a point.
func TestRestoreOfFiltered(t *testing.T) {
	row, above := []byte{16, 32, 48, 255, 0, 1, 200, 199}, []byte{17, 250, 3, 255, 255, 0, 100, 9}
	for size := range len(row) + 1 {
		for lead := 1; lead <= 8; lead++ {
			for filter := range byte(5) {
				taken := takerOf(filter)
				got := filtered(row[:size], above[:size], lead, taken)
				restore(got, above[:size], lead, taken)
				if !slices.Equal(got, row[:size]) {
					t.Errorf("filter %d, lead %d: %v, want %v", filter, lead, got, row[:size])
				}
			}
		}
	}
}

// TestLeastLeft: rows for which one filter leaves nothing, or next to nothing, but its first bytes.
func TestLeastLeft(t *testing.T) {
	for _, c := range []struct {
		name, row, above string
		want             byte
	}{
		{"noughts", "\x00\x00\x00\x00", "\x50\x60\x70\x30", 0},
		{"near to 0 from below", "\xff\x01\xff\x01", "\x50\x60\x70\x30", 0},
		{"one byte over and over", "\x60\x60\x60\x60", "\x00\x00\x00\x00", 1},
		{"as the row ahead", "\x50\x10\x70\x30", "\x50\x10\x70\x30", 2},
		{"halfway", "\x32\x51\x40\x38", "\x64\x70\x30\x30", 3},
		{"a corner", "\x40\x40\x70\x70", "\x10\x10\x70\x70", 4},
	} {
		filter, left := leastLeft([]byte(c.row), []byte(c.above), 1)
		if want := filtered([]byte(c.row), []byte(c.above), 1, takerOf(filter)); !slices.Equal(left, want) {
			t.Errorf("%s: %x is left, want %x", c.name, left, want)
		}
		if filter != c.want {
			t.Errorf("%s: the filter %d, want %d", c.name, filter, c.want)
		}
	}
}

// TestChooseIsLeast: no filter leaves less of a row than the one that is chosen.
func TestChooseIsLeast(t *testing.T) {
	m := api.Image{Width: 40, Height: 30, Depth: 8, Samples: make([]int, 1200)}
	for i := range m.Samples {
		m.Samples[i] = (i*i/50 + i%40*3) % 256
	}
	chosen := Bytes(m, api.Choose)
	for filter := range api.Choose {
		other := Bytes(m, filter)
		for at := 0; at < len(chosen); at += 41 {
			if sizeOf([]byte(chosen[at+1:at+41])) > sizeOf([]byte(other[at+1:at+41])) {
				t.Errorf("row %d: the filter %d leaves less", at/41, filter)
			}
		}
	}
}
