// Package rows: the rows of a picture, and the samples in them, read and written. Its reader gives up by a panic with a fault.Fault.
package rows

import (
	"mosaic/api"
	"mosaic/fault"
)

// taker is what a filter takes away from a byte, by the bytes around it: a ahead in its row, b above it, c above a.
type taker func(a, b, c int) int

func takerOf(filter byte) taker {
	switch filter {
	case 0:
		return func(a, b, c int) int { return 0 }
	case 1:
		return func(a, b, c int) int { return a }
	case 2:
		return func(a, b, c int) int { return b }
	case 3:
		return func(a, b, c int) int { return (a + b) / 2 }
	case 4:
		return nearest
	}
	panic(fault.Fault(api.ErrFilter))
}

// nearest is the one of a, b and c that is nearest to a + b - c.
func nearest(a, b, c int) int {
	fromA, fromB, fromC := distance(b, c), distance(a, c), distance(a+b, c+c)
	switch {
	case fromA <= fromB && fromA <= fromC:
		return a
	case fromB <= fromC:
		return b
	}
	return c
}

func distance(x, y int) int { return max(x-y, y-x) }

// around are the bytes around that at place i of a row, of which a point has lead; 0 where there is none.
func around(row, above []byte, i, lead int) (a, b, c int) {
	if i >= lead {
		a, c = int(row[i-lead]), int(above[i-lead])
	}
	return a, int(above[i]), c
}

// restore puts back into a row what its filter took away.
func restore(row, above []byte, lead int, taken taker) {
	for i := range row {
		row[i] += byte(taken(around(row, above, i, lead)))
	}
}

// filtered is what is left of a row when its filter has taken away.
func filtered(row, above []byte, lead int, taken taker) []byte {
	left := make([]byte, len(row))
	for i := range row {
		left[i] = row[i] - byte(taken(around(row, above, i, lead)))
	}
	return left
}
