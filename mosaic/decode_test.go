package mosaic_test

import (
	"image"
	"image/color"
	"image/png"
	"math"
	"math/rand"
	"slices"
	"strings"
	"testing"

	"mosaic/api"
	"mosaic/mosaic"
)

func TestP9Examples(t *testing.T) {
	one := api.Image{Width: 1, Height: 1, Depth: 8, Samples: []int{7}}
	wantDecode(t, "one point", piecesOf(one, "\x00\x07").String(), 2, one)
	bits := api.Image{Width: 3, Height: 1, Depth: 1, Samples: []int{1, 0, 1}}
	wantDecode(t, "three bits", piecesOf(bits, "\x00\xa0").String(), 2, bits)
	nine := api.Image{Width: 3, Height: 3, Depth: 8, Passes: true, Samples: []int{1, 5, 2, 7, 8, 9, 3, 6, 4}}
	b := piecesOf(nine, "\x00\x01\x00\x02\x00\x03\x04\x00\x05\x00\x06\x00\x07\x08\x09").String()
	wantDecode(t, "five passes", b, 15, nine)
	wantDecodeError(t, "five passes", b, 14, api.ErrLimit)
	row := api.Image{Width: 3, Height: 1, Depth: 8, Samples: []int{0x10, 0x20, 0x30}}
	for _, raw := range []string{"\x00\x10\x20\x30", "\x01\x10\x10\x10", "\x02\x10\x20\x30", "\x03\x10\x18\x20", "\x04\x10\x10\x10"} {
		wantDecode(t, "a filtered row", piecesOf(row, raw).String(), 4, row)
	}
}

// TestP9EveryKind: all kinds, depths, small sides, with and without passes, with any filters, and anything in what is left of a row's last byte.
func TestP9EveryKind(t *testing.T) {
	r := rand.New(rand.NewSource(11))
	for _, c := range kindsAndDepths {
		for width := 1; width <= 10; width++ {
			for height := 1; height <= 10; height++ {
				for _, passes := range []bool{false, true} {
					m := anyPicture(r, c[0], c[1], width, height, passes)
					raw := anyhow(r).rows(m)
					wantDecode(t, "a small picture", piecesOf(m, raw).String(), len(raw), m)
				}
			}
		}
		for range 4 {
			m := anyPicture(r, c[0], c[1], 1+r.Intn(70), 1+r.Intn(40), r.Intn(2) == 0)
			raw := anyhow(r).rows(m)
			wantDecode(t, "a picture", piecesOf(m, raw).String(), api.MaxRaw, m)
		}
	}
}

// TestP9EachFilter: smooth pictures, in which the filters meet small and equal differences, too.
func TestP9EachFilter(t *testing.T) {
	r := rand.New(rand.NewSource(12))
	for _, c := range kindsAndDepths {
		for filter := range 5 {
			m := anyPicture(r, c[0], c[1], 30, 30, filter%2 == 0)
			for i := range m.Samples {
				m.Samples[i] = min(m.Samples[i], i*i/400+r.Intn(3))
			}
			raw := rowWriter{func(int) int { return filter }, plain.left}.rows(m)
			wantDecode(t, "a smooth picture", piecesOf(m, raw).String(), len(raw), m)
		}
	}
}

// colourAt is the colour of a point, as the picture's samples say it.
func colourAt(m api.Image, column, row int) color.NRGBA64 {
	count := pointSamples(m.Kind, m.Depth)
	whole := func(sample int) uint16 { return uint16(sample * 65535 / (1<<m.Depth - 1)) }
	s := m.Samples[(row*m.Width+column)*count:][:count]
	switch m.Kind {
	case 2:
		return color.NRGBA64{whole(s[0]), whole(s[1]), whole(s[2]), 65535}
	case 3:
		p := m.Palette[3*s[0]:]
		return color.NRGBA64{uint16(p[0] * 257), uint16(p[1] * 257), uint16(p[2] * 257), 65535}
	case 4:
		return color.NRGBA64{whole(s[0]), whole(s[0]), whole(s[0]), whole(s[1])}
	case 6:
		return color.NRGBA64{whole(s[0]), whole(s[1]), whole(s[2]), whole(s[3])}
	}
	return color.NRGBA64{whole(s[0]), whole(s[0]), whole(s[0]), 65535}
}

func sameColours(g image.Image, m api.Image) bool {
	for row := range m.Height {
		for column := range m.Width {
			gr, gg, gb, ga := g.At(column, row).RGBA()
			mr, mg, mb, ma := colourAt(m, column, row).RGBA()
			if gr != mr || gg != mg || gb != mb || ga != ma {
				return false
			}
		}
	}
	return true
}

// TestP9AsAnother: what comes out is what another reader of PNG sees in the same file.
func TestP9AsAnother(t *testing.T) {
	r := rand.New(rand.NewSource(13))
	for _, c := range kindsAndDepths {
		for n := range 12 {
			m := anyPicture(r, c[0], c[1], 1+r.Intn(20), 1+r.Intn(20), n%2 == 0)
			b := piecesOf(m, anyhow(r).rows(m)).String()
			g, err := png.Decode(strings.NewReader(b))
			if err != nil {
				t.Fatalf("another one says %v of %q", err, b)
			}
			got, e := mosaic.Decode(b, api.MaxRaw)
			if e != api.OK || g.Bounds() != image.Rect(0, 0, got.Width, got.Height) || !sameColours(g, got) {
				t.Errorf("P9: kind %d, depth %d, %d by %d, passes %v: error %d, or other colours than another reads", m.Kind, m.Depth, m.Width, m.Height, m.Passes, e)
			}
		}
	}
}

// TestP9Largest: as many points, and as many bytes, as there may be.
func TestP9Largest(t *testing.T) {
	for _, c := range []struct {
		m    api.Image
		size int
	}{
		{api.Image{Width: 5000, Height: 5000, Depth: 1, Passes: true}, largestBits},
		{api.Image{Width: 4095, Height: 1024, Depth: 8}, 4194304},
		{api.Image{Width: 511, Height: 1024, Kind: 6, Depth: 16}, 1024 * (1 + 511*8)},
	} {
		// The last byte alone is not 0: it is that of the last row's last sample.
		raw := strings.Repeat("\x00", c.size-1) + "\x01"
		c.m.Samples = make([]int, c.m.Width*c.m.Height*pointSamples(c.m.Kind, c.m.Depth))
		c.m.Samples[len(c.m.Samples)-1] = 1
		b := piecesOf(c.m, raw).String()
		wantDecode(t, "a large picture", b, c.size, c.m)
		wantDecodeError(t, "a large picture", b, c.size-1, api.ErrLimit)
	}
}

// largestBits is the raw size of 5000 by 5000 points of depth 1 with passes: of each pass, its rows, each of a filter and its bytes.
const largestBits = 625*(1+79) + 625*(1+79) + 625*(1+157) + 1250*(1+157) + 1250*(1+313) + 2500*(1+313) + 2500*(1+625)

func TestP9Limit(t *testing.T) {
	r := rand.New(rand.NewSource(14))
	for _, c := range kindsAndDepths {
		for _, passes := range []bool{false, true} {
			m := anyPicture(r, c[0], c[1], 1+r.Intn(12), 1+r.Intn(12), passes)
			raw := plain.rows(m)
			b := piecesOf(m, raw).String()
			for _, limit := range []int{len(raw), len(raw) + 1, math.MaxInt} {
				wantDecode(t, "enough", b, limit, m)
			}
			for _, limit := range []int{len(raw) - 1, 0, -1, math.MinInt} {
				wantDecodeError(t, "too little", b, limit, api.ErrLimit)
			}
		}
	}
	for _, m := range []api.Image{
		{Width: 2112, Height: 1985, Depth: 8},
		{Width: 2048, Height: 2047, Depth: 8, Passes: true},
		{Width: 5000, Height: 5000, Depth: 2},
		{Width: 1366, Height: 1024, Kind: 2, Depth: 8},
		{Width: 512, Height: 1024, Kind: 6, Depth: 16},
		{Width: 5000, Height: 5000, Kind: 6, Depth: 16},
	} {
		for _, limit := range []int{4194304, 4194305, 1 << 40, math.MaxInt} {
			wantDecodeError(t, "more than MaxRaw", piecesOf(m, "").String(), limit, api.ErrLimit)
		}
	}
}

// TestP9LeftOut: chunks with a small letter first change nothing, where they may be.
func TestP9LeftOut(t *testing.T) {
	r := rand.New(rand.NewSource(15))
	for _, name := range []string{"tEXt", "aaaa", "zZZZ", "iDAT", "pLTE", "iEND", "iHDR", "aZaz"} {
		for _, data := range []string{"", "x", noise(500), signature, "\x00\x00\x00\x00IEND\xae\x42\x60\x82"} {
			for _, kind := range []int{0, 2, 3} {
				m := anyPicture(r, kind, 8, 3, 2, false)
				left := chunkOf(name, data)
				p := piecesOf(m, plain.rows(m))
				p.ahead = append([]string{left}, p.ahead...)
				wantDecode(t, "behind the head", p.String(), 99, m)
				p.ahead = append(p.ahead, left, left)
				wantDecode(t, "ahead of the data", p.String(), 99, m)
				p.behind = []string{left, left}
				wantDecode(t, "behind the data", p.String(), 99, m)
				p.data = append(p.data, "")
				wantDecode(t, "two with data", p.String(), 99, m)
				p.behindTheEnd = left
				wantDecodeError(t, "behind the end", p.String(), 99, api.ErrOrder)
				p.signature, p.behindTheEnd = signature+left, ""
				wantDecodeError(t, "ahead of the head", p.String(), 99, api.ErrOrder)
			}
		}
	}
}

// TestP9Split: the data in several chunks, wherever they are cut.
func TestP9Split(t *testing.T) {
	m := anyPicture(rand.New(rand.NewSource(16)), 2, 8, 3, 3, true)
	p := piecesOf(m, plain.rows(m))
	wrapped := p.data[0]
	for i := range len(wrapped) + 1 {
		for j := i; j <= len(wrapped); j++ {
			p.data = []string{wrapped[:i], wrapped[i:j], wrapped[j:]}
			wantDecode(t, "three pieces", p.String(), 99, m)
		}
	}
	p.data = append(strings.Split(wrapped, ""), "", "")
	wantDecode(t, "byte by byte", p.String(), 99, m)
}

// TestP2DecodeLists: the lists that come out are the caller's, and share no room.
func TestP2DecodeLists(t *testing.T) {
	r := rand.New(rand.NewSource(17))
	for _, passes := range []bool{false, true} {
		m := anyPicture(r, 3, 4, 5, 7, passes)
		b := piecesOf(m, anyhow(r).rows(m)).String()
		first, e := mosaic.Decode(b, 99)
		second, _ := mosaic.Decode(b, 99)
		if e != api.OK {
			t.Fatal(e)
		}
		lists := [][]int{first.Palette, first.Samples, second.Palette, second.Samples}
		right := [][]int{m.Palette, m.Samples, m.Palette, m.Samples}
		for i, list := range lists {
			for j := range list[:cap(list)] {
				list[:cap(list)][j] = -1
			}
			for j := i + 1; j < len(lists); j++ {
				if !slices.Equal(lists[j], right[j]) {
					t.Fatal("P2: two lists share room")
				}
			}
		}
		wantDecode(t, "once more", b, 99, m)
	}
}
