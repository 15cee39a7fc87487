package mosaic_test

import (
	"compress/zlib"
	"io"
	"math"
	"math/rand"
	"slices"
	"strings"
	"testing"

	"mosaic/api"
	"mosaic/mosaic"
)

func wantUnwrap(t *testing.T, name, b string, limit int, want string) {
	t.Helper()
	if out, e := mosaic.Unwrap(b, limit); out != want || e != api.OK {
		t.Errorf("P7: %s, limit %d: %d bytes, error %d; want %d bytes", name, limit, len(out), e, len(want))
	}
}

func wantUnwrapError(t *testing.T, name, b string, limit int, want api.Errno) {
	t.Helper()
	if out, e := mosaic.Unwrap(b, limit); out != "" || e != want {
		t.Errorf("P7: %s, limit %d: %q, error %d, want %d", name, limit, out, e, want)
	}
}

func TestP7Examples(t *testing.T) {
	right := unhex(t, "78 9c 4b 04 00 00 62 00 62")
	wantUnwrap(t, "a", right, 1, "a")
	wantUnwrap(t, "a", right, math.MaxInt, "a")
	wantUnwrap(t, "the lowest first byte", unhex(t, "08 1d 4b 04 00 00 62 00 62"), 9, "a")
	wantUnwrap(t, "nothing", unhex(t, "78 9c 03 00 00 00 00 01"), 0, "")
	wantUnwrap(t, "nothing", unhex(t, "78 9c 03 00 00 00 00 01"), math.MinInt, "")
	wantUnwrap(t, "stored bytes", unhex(t, "78 01 01 03 00 fc ff 61 62 63 02 4d 01 27"), 3, "abc")
	wantUnwrapError(t, "another second byte", unhex(t, "78 9d 4b 04 00 00 62 00 62"), 9, api.ErrZlib)
	for _, limit := range []int{math.MinInt, -1, 0} {
		wantUnwrapError(t, "too much", right, limit, api.ErrLimit)
	}
	for n := range len(right) {
		want := api.ErrZlib
		if n >= 2 && n < 5 {
			want = api.ErrDeflate
		}
		wantUnwrapError(t, "cut off", right[:n], 9, want)
	}
}

// TestP7Heads: all first two bytes, as another one takes them or not.
func TestP7Heads(t *testing.T) {
	const rest = "\x4b\x04\x00\x00\x62\x00\x62"
	taken := 0
	for n := range 1 << 16 {
		b := string([]byte{byte(n >> 8), byte(n)}) + rest
		if _, err := zlib.NewReader(strings.NewReader(b)); err == nil {
			taken++
			wantUnwrap(t, "a head", b, 9, "a")
			wantUnwrapError(t, "a head alone", b[:2], 9, api.ErrDeflate)
		} else {
			wantUnwrapError(t, "a wrong head", b, 9, api.ErrZlib)
			wantUnwrapError(t, "a wrong head alone", b[:2], 9, api.ErrZlib)
		}
	}
	// Of each of eight first bytes each 31st second one, less those with the bit 32.
	if taken < 24 || taken > 48 {
		t.Errorf("%d heads are taken", taken)
	}
}

func TestP7Behind(t *testing.T) {
	for _, b := range []string{"", "a", strings.Repeat("mosaic", 50), noise(300)} {
		for level := api.Stored; level <= api.Dynamic; level++ {
			right, e := mosaic.Wrap(b, level)
			if e != api.OK || len(right) < 8 {
				t.Fatalf("P8: Wrap at %d: %d bytes, error %d", level, len(right), e)
			}
			wantUnwrap(t, "right", right, len(b), b)
			for more := 1; more <= 5; more++ {
				wantUnwrapError(t, "bytes behind", right+strings.Repeat("\x00", more), len(b), api.ErrZlib)
			}
			for fewer := 1; fewer <= 4; fewer++ {
				wantUnwrapError(t, "bytes missing", right[:len(right)-fewer], len(b), api.ErrZlib)
			}
			wantUnwrapError(t, "the packed bytes cut off", right[:len(right)-5], len(b), api.ErrDeflate)
			// One byte of the Adler left out, and another behind it.
			wantUnwrapError(t, "the Adler moved", right[:len(right)-4]+right[len(right)-3:]+"\x07", len(b), api.ErrAdler)
			for place := 8 * (len(right) - 4); place < 8*len(right); place++ {
				wrong := []byte(right)
				wrong[place/8] ^= 1 << (place % 8)
				wantUnwrapError(t, "a bit of the Adler turned", string(wrong), len(b), api.ErrAdler)
			}
		}
	}
}

// TestP7FirstError: of several errors the one that is named first.
func TestP7FirstError(t *testing.T) {
	for _, c := range []struct {
		name, b string
		limit   int
		want    api.Errno
	}{
		{"a wrong head, kind 3", "79 9c 07", 9, api.ErrZlib},
		{"a wrong head, too much", "78 9d 4b 04 00 00 62 00 62", 0, api.ErrZlib},
		{"kind 3, nothing behind", "78 9c 07", 9, api.ErrDeflate},
		{"kind 3, a wrong Adler", "78 9c 07 00 00 00 00", 9, api.ErrDeflate},
		{"too much, nothing behind", "78 9c 4b 04 00", 0, api.ErrLimit},
		{"too much, a wrong Adler", "78 9c 4b 04 00 00 62 00 63", 0, api.ErrLimit},
		{"too much, then kind 3", "78 9c 4a 04 c0 01", 0, api.ErrLimit},
		{"too much, but bytes missing", "78 9c 01 03 00 fc ff 61", 2, api.ErrLimit},
		{"bytes missing", "78 9c 01 03 00 fc ff 61", 3, api.ErrDeflate},
		{"a wrong Adler and a byte more", "78 9c 4b 04 00 00 62 00 63 00", 9, api.ErrZlib},
		{"a wrong Adler and a byte less", "78 9c 4b 04 00 00 63 00", 9, api.ErrZlib},
		{"the Adler the other way round", "78 9c 4b 04 00 62 00 62 00", 9, api.ErrAdler},
	} {
		wantUnwrapError(t, c.name, unhex(t, c.b), c.limit, c.want)
	}
}

func TestP8Wrap(t *testing.T) {
	for _, b := range []string{"", "a", "abc", noise(1000), noise(65535), noise(65536), strings.Repeat("ab", 50000), highNoise(140000), fewLetters(140000, 3, 8)} {
		for level := api.Stored; level <= api.Dynamic; level++ {
			w, e := mosaic.Wrap(b, level)
			if e != api.OK || len(w) < 8 {
				t.Fatalf("P8: Wrap of %d bytes at %d: %d bytes, error %d", len(b), level, len(w), e)
			}
			wantPacked(t, "wrapped", w[2:len(w)-4], b, level)
			wantUnwrap(t, "Unwrap of Wrap", w, len(b), b)
			z, err := zlib.NewReader(strings.NewReader(w))
			if err != nil {
				t.Fatalf("P8: Wrap of %d bytes at %d: another one says %v", len(b), level, err)
			}
			if out, err := io.ReadAll(z); err != nil || string(out) != b {
				t.Errorf("P8: Wrap of %d bytes at %d: another one unwraps %d: %v", len(b), level, len(out), err)
			}
		}
	}
}

// TestP8Small: a piece over and over is small when it is wrapped, too.
func TestP8Small(t *testing.T) {
	for _, size := range []int{1, 7, 300, 20000} {
		b := strings.Repeat(begunAlike(size), 1+300000/size)
		for level := api.Fixed; level <= api.Dynamic; level++ {
			w, e := mosaic.Wrap(b, level)
			if most := 6 + 2*size + 50 + len(b)/50; e != api.OK || len(w) > most {
				t.Errorf("P8: a piece of %d bytes, %d in all, at %d: %d bytes, error %d; at most %d may be", size, len(b), level, len(w), e, most)
			}
		}
	}
}

func TestP8WrongLevels(t *testing.T) {
	for _, level := range wrongLevels {
		for _, b := range []string{"", "a", noise(100)} {
			if w, e := mosaic.Wrap(b, level); w != "" || e != api.ErrSetting {
				t.Errorf("P8: Wrap of %d bytes at %d: %d bytes, error %d", len(b), level, len(w), e)
			}
		}
	}
}

// TestP1Unwrap: it ends, no panic leaves it, and beside an error nothing comes out.
func TestP1Unwrap(t *testing.T) {
	r := rand.New(rand.NewSource(7))
	may := []api.Errno{api.OK, api.ErrDeflate, api.ErrLimit, api.ErrZlib, api.ErrAdler}
	seen := map[api.Errno]int{}
	for range 5000 {
		w, _ := mosaic.Wrap(strings.Repeat(noise(r.Intn(60)), r.Intn(4)), r.Intn(3))
		b := []byte(w)
		for range r.Intn(3) {
			b[r.Intn(len(b))] ^= 1 << r.Intn(8)
		}
		if r.Intn(4) == 0 {
			b = b[:r.Intn(len(b))]
		}
		limit := anyNumbers[r.Intn(len(anyNumbers))]
		out, e := mosaic.Unwrap(string(b), limit)
		seen[e]++
		if !slices.Contains(may, e) || e != api.OK && out != "" || len(out) > max(limit, 0) {
			t.Fatalf("P1: Unwrap(%x, %d): %q, error %d", b, limit, out, e)
		}
	}
	for _, e := range may {
		if seen[e] < 50 {
			t.Errorf("the inputs bring too little: %v", seen)
		}
	}
}
