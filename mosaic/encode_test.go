package mosaic_test

import (
	"image"
	"image/png"
	"math"
	"math/rand"
	"slices"
	"strings"
	"testing"

	"mosaic/api"
	"mosaic/mosaic"
)

func TestP10Examples(t *testing.T) {
	for _, c := range []struct {
		m      api.Image
		filter int
		raw    string
	}{
		{api.Image{Width: 1, Height: 1, Depth: 8, Samples: []int{7}}, 0, "00 07"},
		{api.Image{Width: 3, Height: 1, Depth: 1, Samples: []int{1, 0, 1}}, 0, "00 a0"},
		{api.Image{Width: 3, Height: 3, Depth: 8, Passes: true, Samples: []int{1, 5, 2, 7, 8, 9, 3, 6, 4}}, 0, "00 01 00 02 00 03 04 00 05 00 06 00 07 08 09"},
		{api.Image{Width: 3, Height: 1, Depth: 8, Samples: []int{0x10, 0x20, 0x30}}, 0, "00 10 20 30"},
		{api.Image{Width: 3, Height: 1, Depth: 8, Samples: []int{0x10, 0x20, 0x30}}, 1, "01 10 10 10"},
		{api.Image{Width: 3, Height: 1, Depth: 8, Samples: []int{0x10, 0x20, 0x30}}, 2, "02 10 20 30"},
		{api.Image{Width: 3, Height: 1, Depth: 8, Samples: []int{0x10, 0x20, 0x30}}, 3, "03 10 18 20"},
		{api.Image{Width: 3, Height: 1, Depth: 8, Samples: []int{0x10, 0x20, 0x30}}, 4, "04 10 10 10"},
	} {
		s := api.Setting{Level: api.Dynamic, Filter: c.filter, Chunk: api.MaxChunk}
		wrapped := wantChunks(t, encoded(t, c.m, s), c.m, s)
		if raw := unwrappedBy(t, wrapped); raw != unhex(t, c.raw) {
			t.Errorf("P10: filter %d: the rows of %+v are %x, want %s", c.filter, c.m, raw, c.raw)
		}
	}
}

// TestP10Settings: all levels and filters, of all kinds and depths, with and without passes.
func TestP10Settings(t *testing.T) {
	r := rand.New(rand.NewSource(31))
	for _, c := range kindsAndDepths {
		for _, passes := range []bool{false, true} {
			eachSetting(func(s api.Setting) {
				wantEncode(t, smooth(r, c[0], c[1], 1+r.Intn(30), 1+r.Intn(30), passes), s)
			})
		}
	}
}

// TestP10SmallSides: passes without a point, and rows whose last byte is used in part.
func TestP10SmallSides(t *testing.T) {
	r := rand.New(rand.NewSource(32))
	for _, c := range kindsAndDepths {
		for width := 1; width <= 10; width++ {
			for height := 1; height <= 10; height++ {
				for _, passes := range []bool{false, true} {
					wantEncode(t, anyPicture(r, c[0], c[1], width, height, passes), anySetting(r))
				}
			}
		}
	}
}

// TestP10AsAnother: another reader of PNG sees the colours that the samples say.
func TestP10AsAnother(t *testing.T) {
	r := rand.New(rand.NewSource(33))
	for _, c := range kindsAndDepths {
		for n := range 12 {
			m, s := anyPicture(r, c[0], c[1], 1+r.Intn(20), 1+r.Intn(20), n%2 == 0), anySetting(r)
			g, err := png.Decode(strings.NewReader(encoded(t, m, s)))
			if err != nil || g.Bounds() != image.Rect(0, 0, m.Width, m.Height) || !sameColours(g, m) {
				t.Errorf("P10: another one says %v of %+v with %+v, or sees other colours", err, m, s)
			}
		}
	}
}

// TestP10Edges: the highest and lowest samples and colours, and palettes of all sizes.
func TestP10Edges(t *testing.T) {
	r := rand.New(rand.NewSource(34))
	for _, c := range kindsAndDepths {
		m := rightPicture(c[0], c[1], 5, 3)
		for i := range m.Samples {
			if c[0] != 3 {
				m.Samples[i] = r.Intn(2) * (1<<c[1] - 1)
			}
		}
		wantEncode(t, m, anySetting(r))
		for colours := 1; c[0] == 3 && colours <= 1<<c[1]; colours++ {
			m.Palette = make([]int, 3*colours)
			for i := range m.Palette {
				m.Palette[i] = r.Intn(2) * 255
			}
			m.Samples[r.Intn(15)] = colours - 1
			wantEncode(t, m, anySetting(r))
		}
	}
	// An empty palette is none.
	m := rightPicture(0, 8, 2, 2)
	m.Palette = []int{}
	wantEncode(t, m, anySetting(r))
}

// TestP10Largest: as many points, and as many bytes, as there may be, in one, few or very many chunks.
func TestP10Largest(t *testing.T) {
	t.Parallel()
	r := rand.New(rand.NewSource(35))
	for _, c := range []struct {
		m    api.Image
		size int
		s    api.Setting
	}{
		{anyPicture(r, 0, 8, 4095, 1024, false), 4194304, api.Setting{Level: api.Stored, Filter: 4, Chunk: api.MaxChunk}},
		{anyPicture(r, 0, 8, 4095, 1024, false), 4194304, api.Setting{Level: api.Dynamic, Filter: api.Choose, Chunk: api.MaxChunk - 1}},
		{anyPicture(r, 0, 1, 5000, 5000, true), largestBits, api.Setting{Level: api.Fixed, Filter: 3, Chunk: 9999}},
		{rightPicture(0, 8, 999, 700), 700 * 1000, api.Setting{Level: api.Stored, Filter: 0, Chunk: 1}},
		{rightPicture(3, 1, 5000, 5000), 5000 * 626, api.Setting{Level: api.Dynamic, Filter: api.Choose, Chunk: 1}},
		{anyPicture(r, 6, 16, 1, 5000, true), 5000 * 9, api.Setting{Level: api.Dynamic, Filter: api.Choose, Chunk: 100}},
		{anyPicture(r, 2, 16, 5000, 1, false), 30001, api.Setting{Level: api.Dynamic, Filter: api.Choose, Chunk: 100}},
	} {
		b := encoded(t, c.m, c.s)
		wrapped := wantChunks(t, b, c.m, c.s)
		if most := 6 + c.size + 5 + 5*(c.size/65535); len(wrapped) > most {
			t.Errorf("P10: %+v: %d bytes of data, at most %d may be", c.s, len(wrapped), most)
		}
		wantDecode(t, "P10: a large picture", b, c.size, c.m)
		wantDecodeError(t, "P10: a large picture", b, c.size-1, api.ErrLimit)
	}
}

// TestP10Small: rows that are all alike are small at Fixed and Dynamic, as P6 says of a piece over and over.
func TestP10Small(t *testing.T) {
	for _, width := range []int{1, 100, 3000} {
		m := anyPicture(rand.New(rand.NewSource(36)), 0, 8, width, 1, false)
		m.Samples = slices.Repeat(m.Samples, 300)
		m.Height = 300
		for level := api.Fixed; level <= api.Dynamic; level++ {
			s := api.Setting{Level: level, Filter: 0, Chunk: api.MaxChunk}
			wrapped := wantChunks(t, encoded(t, m, s), m, s)
			piece := 1 + width
			if most := 6 + 2*piece + 50 + 300*piece/50; len(wrapped) > most {
				t.Errorf("P10: %d bytes at %d, at most %d may be", len(wrapped), level, most)
			}
		}
	}
}

// TestP10WrongSettings: each part alone, and all that they are wrong in together.
func TestP10WrongSettings(t *testing.T) {
	numbers := append([]int{5, 6, 9, 1<<20 - 1, 1 << 20, 1<<20 + 1, 1 << 21, 1<<32 + 1}, anyNumbers...)
	for _, m := range []api.Image{rightPicture(0, 8, 2, 1), rightPicture(3, 1, 3, 3)} {
		for _, level := range numbers {
			for _, filter := range numbers {
				for _, size := range numbers {
					s := api.Setting{Level: level, Filter: filter, Chunk: size}
					right := level >= 0 && level <= 2 && filter >= 0 && filter <= 5 && size >= 1 && size <= 1048576
					switch b, e := mosaic.Encode(m, s); {
					case right && (e != api.OK || b == ""):
						t.Errorf("P10: %+v: error %d", s, e)
					case !right && (e != api.ErrSetting || b != ""):
						t.Errorf("P10: %+v: %d bytes, error %d", s, len(b), e)
					}
				}
			}
		}
	}
}

// TestP10WrongPictures: the error of Check, whatever the setting, and ahead of its error.
func TestP10WrongPictures(t *testing.T) {
	faults := []struct {
		e   api.Errno
		put func(m *api.Image, s *api.Setting)
	}{
		{api.ErrKind, func(m *api.Image, s *api.Setting) { m.Kind = 1 }},
		{api.ErrSide, func(m *api.Image, s *api.Setting) { m.Width = 5001 }},
		{api.ErrPalette, func(m *api.Image, s *api.Setting) { m.Palette = m.Palette[:2] }},
		{api.ErrSamples, func(m *api.Image, s *api.Setting) { m.Samples = m.Samples[:3] }},
		{api.ErrSetting, func(m *api.Image, s *api.Setting) { s.Level = -1 }},
		{api.ErrSetting, func(m *api.Image, s *api.Setting) { s.Filter = 6 }},
		{api.ErrSetting, func(m *api.Image, s *api.Setting) { s.Chunk = 0 }},
	}
	for set := range 1 << len(faults) {
		m, s, want := rightPicture(3, 8, 2, 2), api.Setting{Filter: 4, Chunk: 9}, api.OK
		for i := len(faults) - 1; i >= 0; i-- {
			if set>>i&1 == 1 {
				faults[i].put(&m, &s)
				want = faults[i].e
			}
		}
		if b, e := mosaic.Encode(m, s); e != want || (b == "") != (want != api.OK) {
			t.Errorf("P10: Encode(%+v, %+v): %d bytes, error %d, want %d", m, s, len(b), e, want)
		}
	}
}

// TestP1Encode: it ends, no panic leaves it, and it refuses what Check refuses, with the same error.
func TestP1Encode(t *testing.T) {
	lists := [][]int{nil, {}, {0}, {1, 2, 3}, {math.MinInt, math.MaxInt, 0}, make([]int, 12), {0, 300, 0}}
	r := rand.New(rand.NewSource(37))
	any := func() int { return anyNumbers[r.Intn(len(anyNumbers))] }
	seen := map[api.Errno]int{}
	for range 100000 {
		m := api.Image{Width: any(), Height: any(), Kind: any(), Depth: any(), Passes: r.Intn(2) == 0, Palette: lists[r.Intn(len(lists))], Samples: lists[r.Intn(len(lists))]}
		if r.Intn(2) == 0 {
			m.Width, m.Height, m.Depth = 1+r.Intn(4), 1+r.Intn(4), 1<<r.Intn(5)
		}
		s := api.Setting{Level: r.Intn(3), Filter: r.Intn(6), Chunk: 1}
		if r.Intn(2) == 0 {
			s = api.Setting{Level: any(), Filter: any(), Chunk: any()}
		}
		b, e := mosaic.Encode(m, s)
		seen[e]++
		if check := mosaic.Check(m); check != api.OK && e != check || check == api.OK && e != api.OK && e != api.ErrSetting || (b == "") != (e != api.OK) {
			t.Fatalf("P1: Encode(%+v, %+v): %d bytes, error %d; Check tells %d", m, s, len(b), e, check)
		}
	}
	for e := api.OK; e <= api.ErrSetting; e++ {
		if seen[e] < 20 {
			t.Errorf("the inputs bring too little of %d: %v", e, seen)
		}
	}
}

// TestP2Encode: nothing is written into the lists, nor behind them; what comes out hangs on the arguments alone, and stays when they change.
func TestP2Encode(t *testing.T) {
	r := rand.New(rand.NewSource(38))
	for _, c := range kindsAndDepths {
		for _, passes := range []bool{false, true} {
			m, s := anyPicture(r, c[0], c[1], 1+r.Intn(20), 1+r.Intn(20), passes), anySetting(r)
			palette, samples := append(slices.Clone(m.Palette), -7, 300, 1), append(slices.Clone(m.Samples), 9, -1, 1<<40)
			roomy := m
			roomy.Palette, roomy.Samples = palette[:len(m.Palette)], samples[:len(m.Samples)]
			paletteAhead, samplesAhead := slices.Clone(palette), slices.Clone(samples)
			first := encoded(t, roomy, s)
			if !slices.Equal(palette, paletteAhead) || !slices.Equal(samples, samplesAhead) {
				t.Fatal("P2: Encode wrote into a list, or behind it")
			}
			kept := strings.Clone(first)
			clear(palette)
			clear(samples)
			encoded(t, rightPicture(c[0], c[1], 3, 3), anySetting(r))
			if again := encoded(t, m, s); again != first || first != kept {
				t.Fatalf("P2: Encode of kind and depth %v with %+v answers otherwise the second time", c, s)
			}
		}
	}
}
