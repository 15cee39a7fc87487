package rows

import (
	"mosaic/api"
	"mosaic/picture"
)

// leadOf is how many bytes a filter looks ahead.
func leadOf(m api.Image) int { return max(picture.PointBits(m)/8, 1) }

// firstSample is the place of the first sample of a pass's row among those of the picture.
func firstSample(m api.Image, p picture.Pass, number int) int {
	point := (p.Row+number*p.RowStep)*m.Width + p.Column
	return point * picture.PointSamples(m.Kind, m.Depth)
}
