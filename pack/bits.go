package pack

import "mosaic/codes"

// bitWriter writes packed bytes from the first bit on.
type bitWriter struct {
	packed []byte
	place  int // how many bits have been written
}

func (w *bitWriter) bit(bit int) {
	if w.place%8 == 0 {
		w.packed = append(w.packed, 0)
	}
	w.packed[w.place/8] |= byte(bit << (w.place % 8))
	w.place++
}

// number writes a number of some bits, the lowest one first.
func (w *bitWriter) number(n, bits int) {
	for i := range bits {
		w.bit(n >> i & 1)
	}
}

func (w *bitWriter) code(c codes.Code) {
	for left := int(c.Length) - 1; left >= 0; left-- {
		w.bit(int(c.Bits >> left & 1))
	}
}

func (w *bitWriter) skipRestOfByte() { w.place = 8 * len(w.packed) }

// bytes writes whole bytes; the place must be a byte's beginning.
func (w *bitWriter) bytes(b string) {
	w.packed = append(w.packed, b...)
	w.place += 8 * len(b)
}
