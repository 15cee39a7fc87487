package file

import (
	"mosaic/api"
	"mosaic/chunks"
	"mosaic/numbers"
	"mosaic/pack"
	"mosaic/picture"
	"mosaic/rows"
	"mosaic/wrap"
)

// SettingFits tells whether a picture may be written with the setting.
func SettingFits(s api.Setting) bool {
	return pack.HasLevel(s.Level) && rows.HasFilter(s.Filter) && 1 <= s.Chunk && s.Chunk <= api.MaxChunk
}

// Write is the file of the picture m, which must be right, with a setting that fits.
func Write(m api.Image, s api.Setting) string {
	wrapped := wrap.Bytes(rows.Bytes(m, s.Filter), s.Level)
	return chunks.File(func(put func(c chunks.Chunk)) {
		put(chunks.Chunk{Name: headName, Bytes: headBytes(m)})
		if m.Kind == picture.ByPalette {
			put(chunks.Chunk{Name: paletteName, Bytes: paletteBytes(m.Palette)})
		}
		eachPiece(wrapped, s.Chunk, func(piece string) {
			put(chunks.Chunk{Name: dataName, Bytes: piece})
		})
		put(chunks.Chunk{Name: endName})
	})
}

func headBytes(m api.Image) string {
	passes := byte(0)
	if m.Passes {
		passes = 1
	}
	rest := []byte{byte(m.Depth), byte(m.Kind), 0, 0, passes}
	return numbers.ToFour(m.Width) + numbers.ToFour(m.Height) + string(rest)
}

func paletteBytes(palette []int) string {
	b := make([]byte, len(palette))
	for i, n := range palette {
		b[i] = byte(n)
	}
	return string(b)
}

// eachPiece hands on the pieces into which b is cut, of most bytes each; the last one may be shorter.
func eachPiece(b string, most int, do func(piece string)) {
	for len(b) > 0 {
		size := min(most, len(b))
		do(b[:size])
		b = b[size:]
	}
}
