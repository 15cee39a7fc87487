package picture

import "mosaic/api"

// Pass is which points of a picture come together: from a column and row on, every so many; and how many they are.
type Pass struct {
	Column, Row         int
	ColumnStep, RowStep int
	Columns, Rows       int
}

var sevenPasses = [7]Pass{
	{Column: 0, Row: 0, ColumnStep: 8, RowStep: 8},
	{Column: 4, Row: 0, ColumnStep: 8, RowStep: 8},
	{Column: 0, Row: 4, ColumnStep: 4, RowStep: 8},
	{Column: 2, Row: 0, ColumnStep: 4, RowStep: 4},
	{Column: 0, Row: 2, ColumnStep: 2, RowStep: 4},
	{Column: 1, Row: 0, ColumnStep: 2, RowStep: 2},
	{Column: 0, Row: 1, ColumnStep: 1, RowStep: 2},
}

// EachPass hands on the passes of a picture that have any points, in their order.
func EachPass(m api.Image, do func(p Pass)) {
	if !m.Passes {
		do(Pass{ColumnStep: 1, RowStep: 1, Columns: m.Width, Rows: m.Height})
		return
	}
	for _, p := range sevenPasses {
		p.Columns = countSteps(p.Column, p.ColumnStep, m.Width)
		p.Rows = countSteps(p.Row, p.RowStep, m.Height)
		if p.Columns > 0 && p.Rows > 0 {
			do(p)
		}
	}
}

// countSteps is how many numbers below end there are from start on, a step apart.
func countSteps(start, step, end int) int {
	return (end - start + step - 1) / step
}

// RawSize is how many bytes the rows of a picture have, filters included; its kind and sides must be right.
func RawSize(m api.Image) int {
	size := 0
	EachPass(m, func(p Pass) {
		size += p.Rows * (1 + RowBytes(m, p))
	})
	return size
}

// RowBytes is how many bytes a row of the pass has behind its filter.
func RowBytes(m api.Image, p Pass) int {
	return (p.Columns*PointBits(m) + 7) / 8
}

// PointBits is how many bits a point has.
func PointBits(m api.Image) int {
	return PointSamples(m.Kind, m.Depth) * m.Depth
}
