package mosaic_test

import (
	"math/rand"
	"testing"

	"mosaic/api"
	"mosaic/mosaic"
)

// TestP11DecodeOfEncode: the picture, whatever it is and whatever the setting.
func TestP11DecodeOfEncode(t *testing.T) {
	r := rand.New(rand.NewSource(41))
	for _, c := range kindsAndDepths {
		for range 40 {
			m := anyPicture(r, c[0], c[1], 1+r.Intn(60), 1+r.Intn(60), r.Intn(2) == 0)
			if r.Intn(2) == 0 {
				m = smooth(r, c[0], c[1], 1+r.Intn(60), 1+r.Intn(60), r.Intn(2) == 0)
			}
			wantDecode(t, "P11: Decode of Encode", encoded(t, m, anySetting(r)), api.MaxRaw, m)
		}
	}
}

// spot is a chunk of a file: where it begins and ends, and its name.
type spot struct {
	name       string
	start, end int
}

func spotsIn(b string) []spot {
	var spots []spot
	for at := len(signature); at < len(b); {
		size := int(b[at])<<24 | int(b[at+1])<<16 | int(b[at+2])<<8 | int(b[at+3])
		spots = append(spots, spot{b[at+4 : at+8], at, at + 12 + size})
		at += 12 + size
	}
	return spots
}

// eachSmallFile hands on files of all kinds and depths in few and in many chunks.
func eachSmallFile(t *testing.T, do func(m api.Image, b string)) {
	t.Helper()
	r := rand.New(rand.NewSource(42))
	for _, c := range kindsAndDepths {
		for level := api.Stored; level <= api.Dynamic; level++ {
			for _, size := range []int{1, 11, api.MaxChunk} {
				m := smooth(r, c[0], c[1], 1+r.Intn(4), 1+r.Intn(4), r.Intn(2) == 0)
				do(m, encoded(t, m, api.Setting{Level: level, Filter: r.Intn(6), Chunk: size}))
			}
		}
	}
}

// wantRefused: an error, and nothing beside it.
func wantRefused(t *testing.T, name, b string) {
	t.Helper()
	if m, e := mosaic.Decode(b, api.MaxRaw); e == api.OK || !isEmpty(m) {
		t.Errorf("P11: %s: Decode(%.300q): %+v, error %d", name, b, m, e)
	}
}

func TestP11CutOff(t *testing.T) {
	eachSmallFile(t, func(m api.Image, b string) {
		for n := range len(b) {
			wantRefused(t, "cut off", b[:n])
		}
		wantDecode(t, "P11: nothing cut off", b, api.MaxRaw, m)
	})
}

func TestP11BitTurned(t *testing.T) {
	eachSmallFile(t, func(m api.Image, b string) {
		count := make([]bool, len(b))
		for _, s := range spotsIn(b) {
			for i := range 4 {
				count[s.start+i] = true
			}
		}
		turned := []byte(b)
		for place := range 8 * len(b) {
			if count[place/8] {
				continue
			}
			turned[place/8] ^= 1 << (place % 8)
			wantRefused(t, "a bit turned", string(turned))
			turned[place/8] ^= 1 << (place % 8)
		}
	})
}

// TestP11SmallLetter: a chunk with a small letter first, in each place between two chunks.
func TestP11SmallLetter(t *testing.T) {
	r := rand.New(rand.NewSource(43))
	names := []string{"tEXt", "iDAT", "pLTE", "aaaa", "zzzz", "aAAA", "zZZZ"}
	eachSmallFile(t, func(m api.Image, b string) {
		spots := spotsIn(b)
		for i := range spots[1:] {
			ahead, behind := spots[i], spots[i+1]
			left := chunkOf(names[r.Intn(len(names))], noise(r.Intn(30)))
			put := b[:ahead.end] + left + b[behind.start:]
			if ahead.name == "IDAT" && behind.name == "IDAT" {
				wantDecodeError(t, "P11: between two IDAT", put, api.MaxRaw, api.ErrOrder)
			} else {
				wantDecode(t, "P11: a chunk put in", put, api.MaxRaw, m)
			}
		}
	})
}

// TestP11UnwrapOfWrap: the rows of pictures, too, at each level and with just their size as the limit.
func TestP11UnwrapOfWrap(t *testing.T) {
	r := rand.New(rand.NewSource(44))
	for _, c := range kindsAndDepths {
		b := anyhow(r).rows(smooth(r, c[0], c[1], 20, 20, r.Intn(2) == 0))
		for level := api.Stored; level <= api.Dynamic; level++ {
			w, e := mosaic.Wrap(b, level)
			if e != api.OK {
				t.Fatalf("P8: Wrap at %d: error %d", level, e)
			}
			wantUnwrap(t, "P11: rows", w, len(b), b)
			wantUnwrapError(t, "P11: rows", w, len(b)-1, api.ErrLimit)
		}
	}
}
