package file

import (
	"hash/crc32"
	"math/rand"
	"strings"
	"testing"

	"mosaic/api"
	"mosaic/fault"
	"mosaic/numbers"
)

func chunk(name, data string) string {
	return numbers.ToFour(len(data)) + name + data + numbers.ToFour(int(crc32.ChecksumIEEE([]byte(name+data))))
}

// caughtFrom is what Read panics with, or nil; the data stand in the file as they are, and mostly come to be as many as they must.
func caughtFrom(b string, limit int) (caught any) {
	defer func() { caught = recover() }()
	Read(b, limit, func(b string, limit int) (string, api.Errno) {
		switch {
		case len(b)%8 != 0:
			return (b + strings.Repeat("\x00", limit))[:limit], api.OK
		case len(b) > limit:
			return "", api.ErrLimit
		}
		return b, api.OK
	})
	return nil
}

// TestGivesUpByFaultAlone: the call's face hides other panics, so they are looked for here.
func TestGivesUpByFaultAlone(t *testing.T) {
	r := rand.New(rand.NewSource(1))
	depths := []int{1, 2, 4, 8, 16, 3}
	right, wrong := 0, 0
	for range 50000 {
		head := numbers.ToFour(r.Intn(5)) + numbers.ToFour(r.Intn(5)) + string([]byte{byte(depths[r.Intn(6)]), byte(r.Intn(8)), 0, 0, byte(r.Intn(3))})
		data := make([]byte, r.Intn(30))
		for i := range data {
			data[i] = byte(r.Intn(6))
		}
		b := "\x89PNG\r\n\x1a\n" + chunk("IHDR", head[:13-r.Intn(50)/49])
		if r.Intn(2) == 0 {
			b += chunk("PLTE", string(data[:r.Intn(len(data)+1)]))
		}
		b += chunk("IDAT", string(data)) + chunk("IEND", "")
		switch caught := caughtFrom(b, r.Intn(60)-1).(type) {
		case nil:
			right++
		case fault.Fault:
			wrong++
		default:
			t.Fatalf("Read(%x) panics with %v", b, caught)
		}
	}
	if right < 500 || wrong < 500 {
		t.Errorf("%d right, %d wrong", right, wrong)
	}
}

// TestUnwrapsWithTheRawSize: unwrap is asked once, with all data, and the raw size as its limit, whatever Read's own is.
func TestUnwrapsWithTheRawSize(t *testing.T) {
	b := "\x89PNG\r\n\x1a\n" + chunk("IHDR", numbers.ToFour(2)+numbers.ToFour(3)+"\x08\x00\x00\x00\x00") + chunk("IDAT", "da") + chunk("IDAT", "ta") + chunk("IEND", "")
	asked := 0
	m := Read(b, 1000, func(wrapped string, limit int) (string, api.Errno) {
		asked++
		if wrapped != "data" || limit != 9 {
			t.Errorf("unwrap of %q, limit %d", wrapped, limit)
		}
		return "\x00\x01\x02\x00\x03\x04\x00\x05\x06", api.OK
	})
	if asked != 1 || len(m.Samples) != 6 || m.Samples[5] != 6 {
		t.Errorf("asked %d times: %+v", asked, m)
	}
}
