package picture

import "mosaic/api"

// Check tells the first fault of a picture, or OK.
func Check(m api.Image) api.Errno {
	switch {
	case PointSamples(m.Kind, m.Depth) == 0:
		return api.ErrKind
	case !sideFits(m.Width) || !sideFits(m.Height) || RawSize(m) > api.MaxRaw:
		return api.ErrSide
	case !paletteFits(m):
		return api.ErrPalette
	case !samplesFit(m):
		return api.ErrSamples
	}
	return api.OK
}

func sideFits(side int) bool { return 1 <= side && side <= api.MaxSide }

func paletteFits(m api.Image) bool {
	if m.Kind != ByPalette {
		return len(m.Palette) == 0
	}
	colours := len(m.Palette) / 3
	if len(m.Palette)%3 != 0 || colours < 1 || colours > 1<<m.Depth {
		return false
	}
	return allBelow(m.Palette, 256)
}

func samplesFit(m api.Image) bool {
	if len(m.Samples) != m.Width*m.Height*PointSamples(m.Kind, m.Depth) {
		return false
	}
	if m.Kind == ByPalette {
		return allBelow(m.Samples, len(m.Palette)/3)
	}
	return allBelow(m.Samples, 1<<m.Depth)
}

func allBelow(numbers []int, end int) bool {
	for _, n := range numbers {
		if n < 0 || n >= end {
			return false
		}
	}
	return true
}
