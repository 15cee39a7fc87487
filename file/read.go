// Package file: a picture as a file, read and written. Its reader gives up by a panic with a fault.Fault.
package file

import (
	"mosaic/api"
	"mosaic/fault"
	"mosaic/numbers"
	"mosaic/picture"
	"mosaic/rows"
)

const headSize = 13

// mostColours is how many a palette has at most where no sample names them.
const mostColours = 256

// Read is the picture of the file b, if its rows have at most limit bytes; they are brought out by unwrap.
func Read(b string, limit int, unwrap func(b string, limit int) (string, api.Errno)) api.Image {
	p := readParts(b)
	m := readHead(p.head)
	size := picture.RawSize(m)
	if size > limit || size > api.MaxRaw {
		panic(fault.Fault(api.ErrLimit))
	}
	m.Palette = readPalette(m.Kind, m.Depth, p)
	raw, e := unwrap(p.wrapped, size)
	if e == api.ErrLimit || e == api.OK && len(raw) != size {
		e = api.ErrSize
	}
	if e != api.OK {
		panic(fault.Fault(e))
	}
	m.Samples = rows.Samples(m, raw)
	return m
}

// readHead is a picture that has what the head tells, and no more.
func readHead(b string) api.Image {
	if len(b) != headSize {
		panic(fault.Fault(api.ErrHead))
	}
	m := api.Image{
		Width:  numbers.FromFour(b),
		Height: numbers.FromFour(b[4:]),
		Depth:  int(b[8]),
		Kind:   int(b[9]),
		Passes: b[12] == 1,
	}
	sidesFit := picture.SideFits(m.Width) && picture.SideFits(m.Height)
	restFits := b[10] == 0 && b[11] == 0 && b[12] <= 1
	if !sidesFit || !restFits || picture.PointSamples(m.Kind, m.Depth) == 0 {
		panic(fault.Fault(api.ErrHead))
	}
	return m
}

// readPalette is the palette of a picture by palette; another one has none, even if the file does.
func readPalette(kind, depth int, p parts) []int {
	if !paletteFits(kind, depth, p) {
		panic(fault.Fault(api.ErrPalette))
	}
	if kind != picture.ByPalette {
		return nil
	}
	palette := make([]int, len(p.palette))
	for i := range palette {
		palette[i] = int(p.palette[i])
	}
	return palette
}

func paletteFits(kind, depth int, p parts) bool {
	if !p.hasPalette {
		return kind != picture.ByPalette
	}
	switch kind {
	case picture.Grey, picture.GreyAlpha:
		return false
	case picture.ByPalette:
		return picture.ColoursFit(len(p.palette), 1<<depth)
	}
	return picture.ColoursFit(len(p.palette), mostColours)
}
