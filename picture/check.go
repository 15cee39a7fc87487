package picture

import "mosaic/api"

// Check tells the first fault of a picture, or OK.
func Check(m api.Image) api.Errno {
	switch {
	case PointSamples(m.Kind, m.Depth) == 0:
		return api.ErrKind
	case !SideFits(m.Width) || !SideFits(m.Height) || RawSize(m) > api.MaxRaw:
		return api.ErrSide
	case !paletteFits(m):
		return api.ErrPalette
	case !samplesFit(m):
		return api.ErrSamples
	}
	return api.OK
}

// SideFits tells whether a width or height may be.
func SideFits(side int) bool { return 1 <= side && side <= api.MaxSide }

func paletteFits(m api.Image) bool {
	if m.Kind != ByPalette {
		return len(m.Palette) == 0
	}
	return ColoursFit(len(m.Palette), 1<<m.Depth) && AllBelow(m.Palette, 256)
}

// ColoursFit tells whether so many numbers are three each for 1 to most colours.
func ColoursFit(numbers, most int) bool {
	colours := numbers / 3
	return numbers%3 == 0 && 1 <= colours && colours <= most
}

func samplesFit(m api.Image) bool {
	if len(m.Samples) != m.Width*m.Height*PointSamples(m.Kind, m.Depth) {
		return false
	}
	if m.Kind == ByPalette {
		return AllBelow(m.Samples, len(m.Palette)/3)
	}
	return AllBelow(m.Samples, 1<<m.Depth)
}

// AllBelow tells whether the numbers are 0 or more, and below end.
func AllBelow(numbers []int, end int) bool {
	for _, n := range numbers {
		if n < 0 || n >= end {
			return false
		}
	}
	return true
}
