package mosaic_test

import (
	"hash/adler32"
	"hash/crc32"
	"math/rand"
	"strings"
	"testing"

	"mosaic/mosaic"
)

func TestP4Examples(t *testing.T) {
	for _, c := range []struct {
		b          string
		crc, adler int
	}{
		{"", 0, 1},
		{"123456789", 0xcbf43926, 0x091e01de},
		{"abc", 0x352441c2, 0x024d0127},
		{"\x00", 0xd202ef8d, 0x00010001},
		{"\xff", 0xff000000, 0x01000100},
		{"\xff\xff\xff\xff", 0xffffffff, 0x09fa03fd},
	} {
		if crc, adler := mosaic.Crc(c.b), mosaic.Adler(c.b); crc != c.crc || adler != c.adler {
			t.Errorf("P4: of %q: %x, %x, want %x, %x", c.b, crc, adler, c.crc, c.adler)
		}
	}
}

func TestP4AgainstTheLibrary(t *testing.T) {
	r := rand.New(rand.NewSource(4))
	texts := []string{strings.Repeat("\xff", 300000), strings.Repeat("\x00", 70000)}
	for n := range 200 {
		b := make([]byte, n)
		r.Read(b)
		texts = append(texts, string(b))
	}
	for _, b := range texts {
		if c := mosaic.Crc(b); c != int(crc32.ChecksumIEEE([]byte(b))) {
			t.Errorf("P4: Crc of %d bytes: %x", len(b), c)
		}
		if a := mosaic.Adler(b); a != int(adler32.Checksum([]byte(b))) {
			t.Errorf("P4: Adler of %d bytes: %x", len(b), a)
		}
	}
}
