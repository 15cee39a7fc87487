// Package numbers: numbers of four bytes, the high byte first.
package numbers

// FromFour is the number that the first four bytes of b are.
func FromFour(b string) int {
	return int(b[0])<<24 | int(b[1])<<16 | int(b[2])<<8 | int(b[3])
}

// ToFour is a number as four bytes.
func ToFour(n int) string {
	return string([]byte{byte(n >> 24), byte(n >> 16), byte(n >> 8), byte(n)})
}
