package rows

import (
	"mosaic/api"
	"mosaic/picture"
)

// HasFilter tells whether rows may be written with the filter.
func HasFilter(filter int) bool { return filter >= 0 && filter <= api.Choose }

// Bytes are the rows of the picture m, which must be right, written with a filter that there is.
func Bytes(m api.Image, filter int) string {
	raw := make([]byte, 0, picture.RawSize(m))
	write := writerOf(filter, leadOf(m), func(filter byte, left []byte) {
		raw = append(raw, filter)
		raw = append(raw, left...)
	})
	eachPlainRow(m, write)
	return string(raw)
}

// writerOf is a function that filters one row, with what it is given of the row ahead, and puts it.
func writerOf(filter, lead int, put func(filter byte, left []byte)) func(row, above []byte) {
	if filter == api.Choose {
		return func(row, above []byte) { put(leastLeft(row, above, lead)) }
	}
	taken := takerOf(byte(filter))
	return func(row, above []byte) { put(byte(filter), filtered(row, above, lead, taken)) }
}

// leastLeft is the filter that leaves the smallest differences, and what it leaves: these are mostly packed best.
func leastLeft(row, above []byte, lead int) (byte, []byte) {
	best, left := byte(0), row
	for filter := byte(1); filter < api.Choose; filter++ {
		other := filtered(row, above, lead, takerOf(filter))
		if sizeOf(other) < sizeOf(left) {
			best, left = filter, other
		}
	}
	return best, left
}

// sizeOf is how far the bytes are from 0 in all; those above 127 are near to it from below.
func sizeOf(left []byte) int {
	size := 0
	for _, x := range left {
		size += distance(int(int8(x)), 0)
	}
	return size
}

// eachPlainRow hands on the rows of each pass, not filtered, with the row ahead of each. Both are the callee's only while it runs.
func eachPlainRow(m api.Image, do func(row, above []byte)) {
	point := picture.PointSamples(m.Kind, m.Depth)
	picture.EachPass(m, func(p picture.Pass) {
		size := picture.RowBytes(m, p)
		row, above := make([]byte, size), make([]byte, size)
		for number := range p.Rows {
			clear(row)
			samples := m.Samples[firstSample(m, p, number):]
			eachPicked(samples, point, p.ColumnStep, p.Columns, packer(row, m.Depth))
			do(row, above)
			row, above = above, row
		}
	})
}

// eachPicked hands on the samples of so many points, which are step points apart.
func eachPicked(samples []int, point, step, points int, do func(sample int)) {
	for i := range points {
		for _, sample := range samples[i*step*point:][:point] {
			do(sample)
		}
	}
}

// packer is a function that puts one sample behind the other into a row of noughts.
func packer(row []byte, depth int) func(sample int) {
	first := 0
	return func(sample int) {
		at := first / 8
		if depth == 16 {
			row[at], row[at+1] = byte(sample>>8), byte(sample)
		} else {
			behind := 8 - first%8 - depth
			row[at] |= byte(sample << behind)
		}
		first += depth
	}
}
