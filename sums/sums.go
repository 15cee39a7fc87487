// Package sums: the two checks of bytes.
package sums

// polynomial is the CRC's, less its highest power, with the highest bit last, as the bits of a byte come lowest first.
const polynomial = 0xedb88320

const adlerModulus = 65521

// Crc is the CRC of some bytes.
func Crc(b string) int {
	// Beginning with ones and turning the end over is what turns over the first 32 bits and the rest.
	rest := ^uint32(0)
	for i := range len(b) {
		rest ^= uint32(b[i])
		for range 8 {
			lowest := rest & 1
			rest = rest>>1 ^ polynomial*lowest
		}
	}
	return int(^rest)
}

// Adler is the Adler of some bytes.
func Adler(b string) int {
	s, t := 1, 0
	for i := range len(b) {
		s = (s + int(b[i])) % adlerModulus
		t = (t + s) % adlerModulus
	}
	return 65536*t + s
}
