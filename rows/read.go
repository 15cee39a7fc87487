package rows

import (
	"mosaic/api"
	"mosaic/fault"
	"mosaic/picture"
)

// Samples are the samples that the rows of the picture m bring out; raw are as many bytes as its raw size.
func Samples(m api.Image, raw string) []int {
	point := picture.PointSamples(m.Kind, m.Depth)
	samples := make([]int, m.Width*m.Height*point)
	eachRow(m, raw, func(p picture.Pass, number int, row []byte) {
		put := putter(samples[firstSample(m, p, number):], point, p.ColumnStep)
		eachSample(row, m.Depth, p.Columns*point, put)
	})
	// Only now, as a wrong filter in any row comes ahead of it.
	if m.Kind == picture.ByPalette && !picture.AllBelow(samples, len(m.Palette)/3) {
		panic(fault.Fault(api.ErrIndex))
	}
	return samples
}

// eachRow hands on the rows of each pass, by their numbers in it, with what their filters took away. The row is the callee's only while it runs.
func eachRow(m api.Image, raw string, do func(p picture.Pass, number int, row []byte)) {
	lead := leadOf(m)
	picture.EachPass(m, func(p picture.Pass) {
		size := picture.RowBytes(m, p)
		row, above := make([]byte, size), make([]byte, size)
		for number := range p.Rows {
			taken := takerOf(raw[0])
			copy(row, raw[1:])
			raw = raw[1+size:]
			restore(row, above, lead, taken)
			do(p, number, row)
			row, above = above, row
		}
	})
}

// eachSample hands on the first count samples of a row.
func eachSample(row []byte, depth, count int, do func(sample int)) {
	for i := range count {
		if depth == 16 {
			do(int(row[2*i])<<8 | int(row[2*i+1]))
			continue
		}
		first := i * depth
		behind := 8 - first%8 - depth
		do(int(row[first/8]) >> behind & (1<<depth - 1))
	}
}

// putter is a function that puts one sample after the other where it belongs: the points, of so many samples, are step points apart.
func putter(samples []int, point, step int) func(sample int) {
	place, left := 0, point
	return func(sample int) {
		samples[place] = sample
		place++
		left--
		if left == 0 {
			place += (step - 1) * point
			left = point
		}
	}
}
