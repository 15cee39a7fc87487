package mosaic_test

import (
	"math"
	"slices"
	"testing"

	"mosaic/api"
	"mosaic/mosaic"
)

// pointSamples: the kinds and depths that go together, and how many samples a point has.
func pointSamples(kind, depth int) int {
	return map[[2]int]int{
		{0, 1}: 1, {0, 2}: 1, {0, 4}: 1, {0, 8}: 1, {0, 16}: 1,
		{2, 8}: 3, {2, 16}: 3,
		{3, 1}: 1, {3, 2}: 1, {3, 4}: 1, {3, 8}: 1,
		{4, 8}: 2, {4, 16}: 2,
		{6, 8}: 4, {6, 16}: 4,
	}[[2]int{kind, depth}]
}

// rightPicture is one without a fault, if kind and depth go together.
func rightPicture(kind, depth, width, height int) api.Image {
	m := api.Image{Width: width, Height: height, Kind: kind, Depth: depth}
	m.Samples = make([]int, width*height*pointSamples(kind, depth))
	if kind == 3 {
		m.Palette = []int{0, 128, 255}
	}
	return m
}

func wantCheck(t *testing.T, name string, m api.Image, want api.Errno) {
	t.Helper()
	if e := mosaic.Check(m); e != want {
		t.Errorf("P3: %s: %d, want %d", name, e, want)
	}
}

func TestP3Kinds(t *testing.T) {
	numbers := []int{math.MinInt, -8, -1, 0, 1, 2, 3, 4, 5, 6, 7, 8, 9, 12, 15, 16, 17, 24, 32, 63, 64, 65, math.MaxInt}
	for _, kind := range numbers {
		for _, depth := range numbers {
			want := api.OK
			if pointSamples(kind, depth) == 0 {
				want = api.ErrKind
			}
			for _, passes := range []bool{false, true} {
				m := rightPicture(kind, depth, 3, 5)
				m.Passes = passes
				if e := mosaic.Check(m); e != want {
					t.Errorf("P3: kind %d, depth %d, passes %v: %d, want %d", kind, depth, passes, e, want)
				}
			}
		}
	}
}

func TestP3Sides(t *testing.T) {
	for _, side := range []int{math.MinInt, -5000, -1, 0, 5001, 1 << 31, 1 << 32, 1 << 62, math.MaxInt} {
		m := rightPicture(0, 8, 1, 1)
		m.Width = side
		wantCheck(t, "width", m, api.ErrSide)
		m.Width, m.Height = 1, side
		wantCheck(t, "height", m, api.ErrSide)
		m.Width = side
		wantCheck(t, "both", m, api.ErrSide)
	}
	wantCheck(t, "the widest", rightPicture(0, 8, 5000, 1), api.OK)
	wantCheck(t, "the highest", rightPicture(0, 8, 1, 5000), api.OK)
	wantCheck(t, "one point", rightPicture(0, 8, 1, 1), api.OK)
}

// TestP3RawSize: a picture without samples is ErrSamples just if its size is not too large.
func TestP3RawSize(t *testing.T) {
	for _, c := range []struct {
		name                       string
		kind, depth, width, height int
		passes                     bool
		want                       api.Errno
	}{
		{"1024 rows of 4096 bytes", 0, 8, 4095, 1024, false, api.ErrSamples},
		{"1985 rows of 2113 bytes, one more than may be", 0, 8, 2112, 1985, false, api.ErrSide},
		{"one byte less", 0, 8, 2048, 2047, false, api.ErrSamples},
		{"the same with passes has more filters", 0, 8, 2048, 2047, true, api.ErrSide},
		{"the last that fits with passes", 0, 8, 2047, 2047, true, api.ErrSamples},
		{"depth 1, the largest sides", 0, 1, 5000, 5000, false, api.ErrSamples},
		{"depth 1 with passes", 0, 1, 5000, 5000, true, api.ErrSamples},
		{"depth 2, the largest sides", 0, 2, 5000, 5000, false, api.ErrSide},
		{"depth 16 has two bytes a sample", 0, 16, 2047, 1024, false, api.ErrSamples},
		{"depth 16, a column more", 0, 16, 2048, 1024, false, api.ErrSide},
		{"colour", 2, 8, 1365, 1024, false, api.ErrSamples},
		{"colour, a column more", 2, 8, 1366, 1024, false, api.ErrSide},
		{"colour and alpha, depth 16", 6, 16, 511, 1024, false, api.ErrSamples},
		{"colour and alpha, depth 16, a column more", 6, 16, 512, 1024, false, api.ErrSide},
	} {
		m := rightPicture(c.kind, c.depth, 1, 1)
		m.Width, m.Height, m.Passes, m.Samples = c.width, c.height, c.passes, nil
		wantCheck(t, c.name, m, c.want)
	}
	wantCheck(t, "MaxRaw with its samples", rightPicture(0, 8, 4095, 1024), api.OK)
}

func TestP3Palette(t *testing.T) {
	for _, c := range []struct {
		name        string
		kind, depth int
		palette     []int
		want        api.Errno
	}{
		{"none", 3, 8, nil, api.ErrPalette},
		{"an empty one", 3, 8, []int{}, api.ErrPalette},
		{"one number", 3, 8, make([]int, 1), api.ErrPalette},
		{"two numbers", 3, 8, make([]int, 2), api.ErrPalette},
		{"one colour", 3, 8, make([]int, 3), api.OK},
		{"a number more", 3, 8, make([]int, 4), api.ErrPalette},
		{"256 colours", 3, 8, make([]int, 768), api.OK},
		{"256 colours and a number", 3, 8, make([]int, 769), api.ErrPalette},
		{"257 colours", 3, 8, make([]int, 771), api.ErrPalette},
		{"2 of depth 1", 3, 1, make([]int, 6), api.OK},
		{"3 of depth 1", 3, 1, make([]int, 9), api.ErrPalette},
		{"4 of depth 2", 3, 2, make([]int, 12), api.OK},
		{"5 of depth 2", 3, 2, make([]int, 15), api.ErrPalette},
		{"16 of depth 4", 3, 4, make([]int, 48), api.OK},
		{"17 of depth 4", 3, 4, make([]int, 51), api.ErrPalette},
		{"255", 3, 8, []int{255, 255, 255}, api.OK},
		{"256", 3, 8, []int{256, 0, 0}, api.ErrPalette},
		{"256 last", 3, 8, []int{0, 0, 0, 0, 0, 256}, api.ErrPalette},
		{"-1", 3, 8, []int{0, -1, 0}, api.ErrPalette},
		{"the lowest number", 3, 8, []int{0, 0, math.MinInt}, api.ErrPalette},
		{"the highest number", 3, 8, []int{0, 0, math.MaxInt}, api.ErrPalette},
		{"grey with one", 0, 8, []int{0, 0, 0}, api.ErrPalette},
		{"colour with one", 2, 8, []int{0, 0, 0}, api.ErrPalette},
		{"grey and alpha with a number", 4, 8, []int{0}, api.ErrPalette},
		{"colour and alpha with one", 6, 16, []int{0, 0, 0}, api.ErrPalette},
		{"grey with an empty one", 0, 8, []int{}, api.OK},
	} {
		m := rightPicture(c.kind, c.depth, 2, 2)
		m.Palette = c.palette
		wantCheck(t, c.name, m, c.want)
	}
}

func TestP3Samples(t *testing.T) {
	for _, kindDepth := range [][2]int{{0, 1}, {0, 2}, {0, 4}, {0, 8}, {0, 16}, {2, 8}, {2, 16}, {4, 8}, {4, 16}, {6, 8}, {6, 16}} {
		for place := range 2 * pointSamples(kindDepth[0], kindDepth[1]) {
			end := 1 << kindDepth[1]
			for sample, want := range map[int]api.Errno{0: api.OK, end - 1: api.OK, end: api.ErrSamples, -1: api.ErrSamples, math.MinInt: api.ErrSamples, math.MaxInt: api.ErrSamples} {
				m := rightPicture(kindDepth[0], kindDepth[1], 2, 1)
				m.Samples[place] = sample
				wantCheck(t, "a sample", m, want)
			}
		}
		m := rightPicture(kindDepth[0], kindDepth[1], 2, 3)
		right := m.Samples
		for _, samples := range [][]int{nil, {}, right[1:], append(slices.Clone(right), 0), append(slices.Clone(right), right...)} {
			m.Samples = samples
			wantCheck(t, "too few or too many samples", m, api.ErrSamples)
		}
	}
}

func TestP3SamplesByPalette(t *testing.T) {
	for _, depth := range []int{1, 2, 4, 8} {
		for colours := 1; colours <= 1<<depth; colours++ {
			for sample, want := range map[int]api.Errno{-1: api.ErrSamples, 0: api.OK, colours - 1: api.OK, colours: api.ErrSamples, math.MaxInt: api.ErrSamples} {
				m := rightPicture(3, depth, 3, 2)
				m.Palette = make([]int, 3*colours)
				m.Samples[5] = sample
				wantCheck(t, "a sample by palette", m, want)
			}
		}
	}
}

// TestP3FirstFault: of each two faults, and of all, the one named first is told.
func TestP3FirstFault(t *testing.T) {
	faults := []struct {
		e   api.Errno
		put func(m *api.Image)
	}{
		{api.ErrKind, func(m *api.Image) { m.Depth = 3 }},
		{api.ErrSide, func(m *api.Image) { m.Height = 0 }},
		{api.ErrPalette, func(m *api.Image) { m.Palette = []int{1, 2, 300} }},
		{api.ErrSamples, func(m *api.Image) { m.Samples[0] = -1 }},
	}
	for set := range 1 << len(faults) {
		m, want := rightPicture(3, 8, 2, 2), api.OK
		for i := len(faults) - 1; i >= 0; i-- {
			if set>>i&1 == 1 {
				faults[i].put(&m)
				want = faults[i].e
			}
		}
		wantCheck(t, "several faults", m, want)
	}
	wantCheck(t, "nothing at all", api.Image{}, api.ErrKind)
	wantCheck(t, "too large and too few samples", api.Image{Width: 5000, Height: 5000, Depth: 8}, api.ErrSide)
}

// TestP2CheckLeavesLists: nothing is written into the lists, nor behind them.
func TestP2CheckLeavesLists(t *testing.T) {
	for _, turn := range []func(m *api.Image){
		func(m *api.Image) {},
		func(m *api.Image) { m.Kind = 1 },
		func(m *api.Image) { m.Width = 0 },
		func(m *api.Image) { m.Palette[0] = 256 },
		func(m *api.Image) { m.Samples[0] = 2 },
		func(m *api.Image) { m.Samples = m.Samples[:3] },
		func(m *api.Image) { m.Passes = true },
	} {
		palette, samples := []int{1, 2, 3, 4, 5, 6, 7, 8, 9}, []int{0, 1, 1, 0, -7, 99, 5}
		m := api.Image{Width: 2, Height: 2, Kind: 3, Depth: 1, Palette: palette[:6], Samples: samples[:4]}
		turn(&m)
		paletteAhead, samplesAhead := slices.Clone(palette), slices.Clone(samples)
		first := mosaic.Check(m)
		if !slices.Equal(palette, paletteAhead) || !slices.Equal(samples, samplesAhead) {
			t.Errorf("P2: Check wrote into a list: %v, %v", palette, samples)
		}
		if second := mosaic.Check(m); second != first {
			t.Errorf("P2: Check tells %d, then %d", first, second)
		}
	}
}
