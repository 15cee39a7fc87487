package picture

import (
	"testing"

	"mosaic/api"
)

// passOf is the pass of a point, by the words of the document.
func passOf(column, row int) int {
	switch {
	case column%8 == 0 && row%8 == 0:
		return 1
	case column%8 == 4 && row%8 == 0:
		return 2
	case column%4 == 0 && row%8 == 4:
		return 3
	case column%4 == 2 && row%4 == 0:
		return 4
	case column%2 == 0 && row%4 == 2:
		return 5
	case column%2 == 1 && row%2 == 0:
		return 6
	}
	return 7
}

// countedSize counts the bytes of the rows, point by point.
func countedSize(m api.Image) int {
	points := map[[2]int]int{} // by pass and row
	for row := range m.Height {
		for column := range m.Width {
			pass := 0
			if m.Passes {
				pass = passOf(column, row)
			}
			points[[2]int{pass, row}]++
		}
	}
	size := 0
	for _, n := range points {
		bits := n * PointSamples(m.Kind, m.Depth) * m.Depth
		size += 1 + bits/8
		if bits%8 > 0 {
			size++
		}
	}
	return size
}

func TestRawSize(t *testing.T) {
	for _, c := range []struct {
		m    api.Image
		want int
	}{
		{api.Image{Width: 1, Height: 1, Depth: 8}, 2},
		{api.Image{Width: 1, Height: 1, Depth: 8, Passes: true}, 2},
		{api.Image{Width: 3, Height: 3, Depth: 8}, 12},
		{api.Image{Width: 3, Height: 3, Depth: 8, Passes: true}, 15},
		{api.Image{Width: 9, Height: 2, Depth: 1}, 6},
		{api.Image{Width: 5, Height: 2, Depth: 2}, 6},
		{api.Image{Width: 2, Height: 1, Kind: Colour, Depth: 16}, 13},
	} {
		if n := RawSize(c.m); n != c.want {
			t.Errorf("raw size of %+v: %d, want %d", c.m, n, c.want)
		}
	}
}

func TestRawSizeCounted(t *testing.T) {
	for _, kindDepth := range [][2]int{{Grey, 1}, {Grey, 2}, {ByPalette, 4}, {Grey, 8}, {GreyAlpha, 16}, {Colour, 8}, {ColourAlpha, 16}} {
		for width := 1; width <= 19; width++ {
			for height := 1; height <= 19; height++ {
				for _, passes := range []bool{false, true} {
					m := api.Image{Width: width, Height: height, Kind: kindDepth[0], Depth: kindDepth[1], Passes: passes}
					if n, want := RawSize(m), countedSize(m); n != want {
						t.Errorf("raw size of %+v: %d, want %d", m, n, want)
					}
				}
			}
		}
	}
}

// TestEachPass: each point is in just the pass that the document says.
func TestEachPass(t *testing.T) {
	for width := 1; width <= 17; width++ {
		for height := 1; height <= 17; height++ {
			seen := map[[2]int]int{}
			EachPass(api.Image{Width: width, Height: height, Passes: true}, func(p Pass) {
				number := passOf(p.Column, p.Row)
				for row := range p.Rows {
					for column := range p.Columns {
						at := [2]int{p.Column + column*p.ColumnStep, p.Row + row*p.RowStep}
						if seen[at] != 0 || passOf(at[0], at[1]) != number {
							t.Errorf("%d by %d: point %v in pass %d", width, height, at, number)
						}
						seen[at] = number
					}
				}
			})
			if len(seen) != width*height {
				t.Errorf("%d by %d: %d points in passes", width, height, len(seen))
			}
		}
	}
}
