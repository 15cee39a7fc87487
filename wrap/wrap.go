// Package wrap: wrapped bytes, written and read. Its reader gives up by a panic with a fault.Fault.
package wrap

import (
	"mosaic/api"
	"mosaic/fault"
	"mosaic/numbers"
	"mosaic/pack"
	"mosaic/sums"
	"mosaic/unpack"
)

const (
	headSize  = 2
	adlerSize = 4
)

// head is the first two bytes of what is written: copies may go back as far as there is a distance.
const head = "\x78\x9c"

// Bytes packs a text with a level that there is, and wraps it.
func Bytes(text string, level int) string {
	return head + pack.Bytes(text, level) + numbers.ToFour(sums.Adler(text))
}

// Open is the text that the wrapped bytes b bring out.
func Open(b string, limit int) string {
	if len(b) < headSize || !headMayBe(int(b[0]), int(b[1])) {
		panic(fault.Fault(api.ErrZlib))
	}
	packed := b[headSize:]
	text, used := unpack.Bytes(packed, limit)
	if len(packed)-used != adlerSize {
		panic(fault.Fault(api.ErrZlib))
	}
	if numbers.FromFour(packed[used:]) != sums.Adler(text) {
		panic(fault.Fault(api.ErrAdler))
	}
	return text
}

func headMayBe(x, y int) bool {
	return x&15 == 8 && x>>4 <= 7 && y&32 == 0 && (256*x+y)%31 == 0
}
