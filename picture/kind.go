// Package picture: the kinds of pictures, their passes, the size of their rows, and whether a picture may be.
package picture

// The kinds.
const (
	Grey        = 0
	Colour      = 2
	ByPalette   = 3
	GreyAlpha   = 4
	ColourAlpha = 6
)

// PointSamples is how many samples a point has, or 0 if kind and depth do not go together.
func PointSamples(kind, depth int) int {
	small := depth == 1 || depth == 2 || depth == 4
	whole := depth == 8 || depth == 16
	switch {
	case kind == Grey && (small || whole):
		return 1
	case kind == Colour && whole:
		return 3
	case kind == ByPalette && (small || depth == 8):
		return 1
	case kind == GreyAlpha && whole:
		return 2
	case kind == ColourAlpha && whole:
		return 4
	}
	return 0
}
