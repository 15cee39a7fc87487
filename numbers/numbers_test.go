package numbers

import "testing"

func TestFour(t *testing.T) {
	for n, b := range map[int]string{
		0:              "\x00\x00\x00\x00",
		1:              "\x00\x00\x00\x01",
		0x01020304:     "\x01\x02\x03\x04",
		0x80000000:     "\x80\x00\x00\x00",
		0xffffffff:     "\xff\xff\xff\xff",
		0xfe00 + 1<<24: "\x01\x00\xfe\x00",
	} {
		if got := ToFour(n); got != b {
			t.Errorf("%d is %x, want %x", n, got, b)
		}
		if got := FromFour(b + "more"); got != n {
			t.Errorf("%x is %d, want %d", b, got, n)
		}
	}
}
