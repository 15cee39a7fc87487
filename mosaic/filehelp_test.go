package mosaic_test

import (
	"bytes"
	"compress/zlib"
	"fmt"
	"hash/crc32"
	"io"
	"math/rand"
	"slices"
	"strings"
	"testing"

	"mosaic/api"
	"mosaic/mosaic"
)

const signature = "\x89PNG\r\n\x1a\n"

// kindsAndDepths are all that go together.
var kindsAndDepths = [][2]int{{0, 1}, {0, 2}, {0, 4}, {0, 8}, {0, 16}, {2, 8}, {2, 16}, {3, 1}, {3, 2}, {3, 4}, {3, 8}, {4, 8}, {4, 16}, {6, 8}, {6, 16}}

func fourBytes(n int) string {
	return string([]byte{byte(n >> 24), byte(n >> 16), byte(n >> 8), byte(n)})
}

// chunkOf makes a chunk; it shares nothing with the program.
func chunkOf(name, data string) string {
	return fourBytes(len(data)) + name + data + fourBytes(int(crc32.ChecksumIEEE([]byte(name+data))))
}

// another wraps bytes; there is one for all tests, as making one takes long.
var another = zlib.NewWriter(io.Discard)

// wrappedBy makes wrapped bytes by another's means.
func wrappedBy(text string) string {
	var w bytes.Buffer
	another.Reset(&w)
	another.Write([]byte(text))
	another.Close()
	return w.String()
}

// headBytes are those of IHDR.
func headBytes(m api.Image) string {
	passes := "\x00"
	if m.Passes {
		passes = "\x01"
	}
	return fourBytes(m.Width) + fourBytes(m.Height) + string([]byte{byte(m.Depth), byte(m.Kind), 0, 0}) + passes
}

func paletteBytes(m api.Image) string {
	var b []byte
	for _, n := range m.Palette {
		b = append(b, byte(n))
	}
	return string(b)
}

// pieces are what a test puts together to a file, right or wrong.
type pieces struct {
	signature    string
	head         string
	ahead        []string // whole chunks between IHDR and IDAT
	data         []string // the bytes of each IDAT
	behind       []string // whole chunks between IDAT and IEND
	end          string
	behindTheEnd string
}

// piecesOf are those of a right file of the picture m with these rows.
func piecesOf(m api.Image, raw string) pieces {
	p := pieces{signature: signature, head: headBytes(m), data: []string{wrappedBy(raw)}}
	if m.Kind == 3 {
		p.ahead = []string{chunkOf("PLTE", paletteBytes(m))}
	}
	return p
}

func (p pieces) String() string {
	var b strings.Builder
	b.WriteString(p.signature + chunkOf("IHDR", p.head) + strings.Join(p.ahead, ""))
	for _, d := range p.data {
		b.WriteString(chunkOf("IDAT", d))
	}
	b.WriteString(strings.Join(p.behind, "") + chunkOf("IEND", p.end) + p.behindTheEnd)
	return b.String()
}

// passAt is the pass of a point, by the words of the document.
func passAt(m api.Image, column, row int) int {
	switch {
	case !m.Passes, column%8 == 0 && row%8 == 0:
		return 1
	case column%8 == 4 && row%8 == 0:
		return 2
	case column%4 == 0 && row%8 == 4:
		return 3
	case column%4 == 2 && row%4 == 0:
		return 4
	case column%2 == 0 && row%4 == 2:
		return 5
	case column%2 == 1 && row%2 == 0:
		return 6
	}
	return 7
}

// rowWriter writes the rows of a picture by the words of the document, bit by bit: filter tells that of the row that begins at a place, left the next bit that is left of a last byte.
type rowWriter struct {
	filter func(at int) int
	left   func() int
}

// plain is with the filter 0, and noughts in what is left.
var plain = rowWriter{func(int) int { return 0 }, func() int { return 0 }}

// anyhow is with filters and bits as they fall.
func anyhow(r *rand.Rand) rowWriter {
	return rowWriter{func(int) int { return r.Intn(5) }, func() int { return r.Intn(2) }}
}

func (w rowWriter) rows(m api.Image) string {
	var out []byte
	for pass := 1; pass <= 7; pass++ {
		var above []byte
		for row := range m.Height {
			bits := ""
			for column := range m.Width {
				if passAt(m, column, row) == pass {
					bits += pointBits(m, column, row)
				}
			}
			if bits == "" {
				continue
			}
			line := w.bytesOf(bits)
			filter := w.filter(len(out))
			out = append(out, byte(filter))
			out = append(out, filtered(line, above, max(1, pointSamples(m.Kind, m.Depth)*m.Depth/8), filter)...)
			above = line
		}
	}
	return string(out)
}

func pointBits(m api.Image, column, row int) string {
	bits, samples := "", pointSamples(m.Kind, m.Depth)
	for i := range samples {
		bits += fmt.Sprintf("%0*b", m.Depth, m.Samples[(row*m.Width+column)*samples+i])
	}
	return bits
}

func (w rowWriter) bytesOf(bits string) []byte {
	for len(bits)%8 != 0 {
		bits += string(rune('0' + w.left()))
	}
	b := make([]byte, len(bits)/8)
	for i := range bits {
		b[i/8] |= (bits[i] - '0') << (7 - i%8)
	}
	return b
}

// filtered takes away from each byte what the filter says, as the document tells it; nothing, if there is no such filter.
func filtered(line, above []byte, point, filter int) []byte {
	at := func(list []byte, i int) int {
		if i < 0 || i >= len(list) {
			return 0
		}
		return int(list[i])
	}
	out := slices.Clone(line)
	for i := range line {
		a, b, c := at(line, i-point), at(above, i), at(above, i-point)
		nearest := slices.MinFunc([]int{a, b, c}, func(x, y int) int {
			return max(x-(a+b-c), a+b-c-x) - max(y-(a+b-c), a+b-c-y)
		})
		if filter <= 4 {
			out[i] -= byte([]int{0, a, b, (a + b) / 2, nearest}[filter])
		}
	}
	return out
}

// anyPicture has samples and, with kind 3, colours as they fall.
func anyPicture(r *rand.Rand, kind, depth, width, height int, passes bool) api.Image {
	m := api.Image{Width: width, Height: height, Kind: kind, Depth: depth, Passes: passes}
	end := 1 << depth
	if kind == 3 {
		end = 1 + r.Intn(end)
		for range 3 * end {
			m.Palette = append(m.Palette, r.Intn(256))
		}
	}
	m.Samples = make([]int, width*height*pointSamples(kind, depth))
	for i := range m.Samples {
		m.Samples[i] = r.Intn(end)
	}
	return m
}

func samePicture(x, y api.Image) bool {
	return x.Width == y.Width && x.Height == y.Height && x.Kind == y.Kind && x.Depth == y.Depth && x.Passes == y.Passes && slices.Equal(x.Palette, y.Palette) && slices.Equal(x.Samples, y.Samples)
}

// isEmpty: a struct of 0, and lists without an element.
func isEmpty(m api.Image) bool { return samePicture(m, api.Image{}) }

func wantDecode(t *testing.T, name, b string, limit int, want api.Image) {
	t.Helper()
	if m, e := mosaic.Decode(b, limit); e != api.OK || !samePicture(m, want) {
		t.Errorf("P9: %s: Decode(%.300q, %d): %.300s, error %d, want %.300s", name, b, limit, fmt.Sprintf("%+v", m), e, fmt.Sprintf("%+v", want))
	}
}

func wantDecodeError(t *testing.T, name, b string, limit int, want api.Errno) {
	t.Helper()
	if m, e := mosaic.Decode(b, limit); e != want || !isEmpty(m) {
		t.Errorf("P9: %s: Decode(%.300q, %d): %.300s, error %d, want %d", name, b, limit, fmt.Sprintf("%+v", m), e, want)
	}
}
