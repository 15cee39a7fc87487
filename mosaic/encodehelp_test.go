package mosaic_test

import (
	"compress/zlib"
	"fmt"
	"io"
	"math/rand"
	"strings"
	"testing"

	"mosaic/api"
	"mosaic/mosaic"
)

// dataIn are the bytes of each IDAT of a file; it shares nothing with the program, and leaves the CRC to others.
func dataIn(t *testing.T, b string) []string {
	t.Helper()
	var data []string
	for rest := b[len(signature):]; rest != ""; {
		size := int(rest[0])<<24 | int(rest[1])<<16 | int(rest[2])<<8 | int(rest[3])
		if rest[4:8] == "IDAT" {
			data = append(data, rest[8:8+size])
		}
		rest = rest[12+size:]
	}
	return data
}

// unwrappedBy brings out wrapped bytes by another's means.
func unwrappedBy(t *testing.T, wrapped string) string {
	t.Helper()
	z, err := zlib.NewReader(strings.NewReader(wrapped))
	if err != nil {
		t.Fatalf("P10: another one says %v of the data", err)
	}
	raw, err := io.ReadAll(z)
	if err != nil {
		t.Fatalf("P10: another one says %v of the data", err)
	}
	return string(raw)
}

func encoded(t *testing.T, m api.Image, s api.Setting) string {
	t.Helper()
	b, e := mosaic.Encode(m, s)
	if e != api.OK {
		t.Fatalf("P10: Encode(%.300s, %+v): error %d", fmt.Sprintf("%+v", m), s, e)
	}
	return b
}

// wantChunks: the file has just the chunks that it must have, in their order, each of them right; the answer are the data in them.
func wantChunks(t *testing.T, b string, m api.Image, s api.Setting) string {
	t.Helper()
	p := piecesOf(m, "")
	p.data = dataIn(t, b)
	if len(p.data) == 0 || p.String() != b {
		t.Fatalf("P10: %+v: other chunks than must be in %.300q", s, b)
	}
	for _, d := range p.data {
		if len(d) > s.Chunk {
			t.Fatalf("P10: %+v: a chunk of %d bytes", s, len(d))
		}
	}
	return strings.Join(p.data, "")
}

// wantRows: these are the rows of the picture, each with the filter, or with Choose with any.
func wantRows(t *testing.T, raw string, m api.Image, filter int) {
	t.Helper()
	w := rowWriter{func(at int) int {
		if at >= len(raw) || raw[at] > 4 || filter != api.Choose && int(raw[at]) != filter {
			t.Fatalf("P10: filter %d: no such row at %d of %x", filter, at, raw)
		}
		return int(raw[at])
	}, plain.left}
	if want := w.rows(m); raw != want {
		t.Fatalf("P10: filter %d: the rows of %+v are %x, want %x", filter, m, raw, want)
	}
}

// wantEncode writes a picture, and looks whether the file is such as P10 says; it looks at each row's bits, so pictures are small.
func wantEncode(t *testing.T, m api.Image, s api.Setting) string {
	t.Helper()
	b := encoded(t, m, s)
	wrapped := wantChunks(t, b, m, s)
	raw := unwrappedBy(t, wrapped)
	wantRows(t, raw, m, s.Filter)
	wantPacked(t, "P10: the data", wrapped[2:len(wrapped)-4], raw, s.Level)
	wantDecode(t, "P10: Decode of Encode", b, len(raw), m)
	return b
}

// smooth is a picture whose samples differ little from point to point.
func smooth(r *rand.Rand, kind, depth, width, height int, passes bool) api.Image {
	m := anyPicture(r, kind, depth, width, height, passes)
	for i := range m.Samples {
		m.Samples[i] = min(m.Samples[i], i*i/400+r.Intn(3))
	}
	return m
}

// eachSetting hands on all levels and filters, with some sizes of chunks.
func eachSetting(do func(s api.Setting)) {
	for level := api.Stored; level <= api.Dynamic; level++ {
		for filter := 0; filter <= api.Choose; filter++ {
			for _, size := range []int{1, 2, 100, api.MaxChunk} {
				do(api.Setting{Level: level, Filter: filter, Chunk: size})
			}
		}
	}
}

func anySetting(r *rand.Rand) api.Setting {
	sizes := []int{1, 2, 3, 7, 50, 1000, api.MaxChunk - 1, api.MaxChunk}
	return api.Setting{Level: r.Intn(3), Filter: r.Intn(6), Chunk: sizes[r.Intn(len(sizes))]}
}
