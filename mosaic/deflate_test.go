package mosaic_test

import (
	"bytes"
	"compress/flate"
	"io"
	"math"
	"math/rand"
	"slices"
	"strings"
	"testing"

	"mosaic/api"
	"mosaic/mosaic"
)

// wantPacked looks whether packed bytes are such as P6 says of the bytes b and a level.
func wantPacked(t *testing.T, name, packed, b string, level int) {
	t.Helper()
	if most := len(b) + 5 + 5*(len(b)/65535); len(packed) > most {
		t.Errorf("P6: %s at %d: %d bytes of %d, at most %d may be", name, level, len(packed), len(b), most)
	}
	rest := strings.NewReader(packed)
	out, err := io.ReadAll(flate.NewReader(rest))
	if err != nil || string(out) != b || rest.Len() != 0 {
		t.Errorf("P6: %s at %d: another one unpacks %d bytes of %d, and leaves %d: %v", name, level, len(out), len(b), rest.Len(), err)
		return
	}
	wantInflate(t, name, packed, len(b), b, len(packed))
	kinds := kindsOf(t, packed)
	if level == api.Stored && slices.Max(kinds) > 0 || level == api.Fixed && slices.Max(kinds) > 1 {
		t.Errorf("P6: %s at %d: blocks of the kinds %v", name, level, kinds)
	}
}

// wantDeflate packs bytes, and looks whether what comes is such as P6 says.
func wantDeflate(t *testing.T, name, b string, level int) string {
	t.Helper()
	packed, e := mosaic.Deflate(b, level)
	if e != api.OK {
		t.Errorf("P6: %s at %d: error %d", name, level, e)
		return ""
	}
	wantPacked(t, name, packed, b, level)
	return packed
}

func wantAtEachLevel(t *testing.T, name, b string) {
	t.Helper()
	for level := api.Stored; level <= api.Dynamic; level++ {
		wantDeflate(t, name, b, level)
	}
}

var wrongLevels = []int{math.MinInt, -256, -1, 3, 4, 256, 1 << 32, math.MaxInt}

func TestP6WrongLevels(t *testing.T) {
	for _, level := range wrongLevels {
		for _, b := range []string{"", "a", noise(100)} {
			if packed, e := mosaic.Deflate(b, level); packed != "" || e != api.ErrSetting {
				t.Errorf("P6: Deflate of %d bytes at %d: %d bytes, error %d", len(b), level, len(packed), e)
			}
		}
	}
}

// fewLetters are bytes of which few take turns.
func fewLetters(count, letters int, seed int64) string {
	r := rand.New(rand.NewSource(seed))
	b := make([]byte, count)
	for i := range b {
		b[i] = byte('a' + r.Intn(letters))
	}
	return string(b)
}

func TestP6SmallSizes(t *testing.T) {
	for size := range 300 {
		wantAtEachLevel(t, "noise", noise(size))
		wantAtEachLevel(t, "one letter", strings.Repeat("z", size))
		wantAtEachLevel(t, "two letters", fewLetters(size, 2, 6))
		wantAtEachLevel(t, "high bytes", strings.Repeat("\xff\xfe\xf0", size)[:size])
	}
	for c := range 256 {
		wantAtEachLevel(t, "one byte", string([]byte{byte(c)}))
	}
}

// TestP6BlockSizes: the sizes at which a block more is needed.
func TestP6BlockSizes(t *testing.T) {
	t.Parallel()
	for _, size := range []int{65533, 65534, 65535, 65536, 65537, 65538, 65835, 131069, 131070, 131071, 196605, 196606} {
		wantAtEachLevel(t, "noise", noise(size))
		wantAtEachLevel(t, "one letter", strings.Repeat("z", size))
		wantAtEachLevel(t, "few letters", fewLetters(size, 5, 6))
		// Bytes whose fixed codes have nine bits.
		wantAtEachLevel(t, "high bytes", highNoise(size))
	}
}

func highNoise(count int) string {
	b := []byte(noise(count))
	for i := range b {
		b[i] |= 0x90
	}
	return string(b)
}

// TestP6MixedBlocks: blocks of one kind behind those of another, which end anywhere within a byte.
func TestP6MixedBlocks(t *testing.T) {
	for shift := range 9 {
		var b strings.Builder
		for i := range 4 {
			b.WriteString(noise(65535 - 8*i))
			b.WriteString(strings.Repeat("mosaic", 10000) + fewLetters(5535+8*i+shift, 9, 6))
		}
		wantAtEachLevel(t, "mixed", b.String())
	}
	packed := wantDeflate(t, "mixed", noise(65535)+strings.Repeat("m", 65535)+noise(65535), api.Fixed)
	if kinds := kindsOf(t, packed); !slices.Equal(kinds, []int{0, 1, 0}) {
		t.Errorf("mixed at Fixed: the kinds %v do not bring what this test is for", kinds)
	}
}

// TestP6CopiesAcross: strings that came before in another block, and as far away as a copy may go.
func TestP6CopiesAcross(t *testing.T) {
	for _, size := range []int{1000, 20000, 32767, 32768, 32769, 65534, 65535, 65536} {
		b := strings.Repeat(noise(size), 4)
		wantAtEachLevel(t, "noise over and over", b[:min(len(b), 200000)])
	}
	seldom := noise(258)
	for _, distance := range []int{300, 32767, 32768, 32769, 40000} {
		between := fewLetters(distance-len(seldom), 26, 7)
		wantAtEachLevel(t, "a string far away", seldom+between+seldom+between+seldom)
	}
}

func TestP6UnlikeWeights(t *testing.T) {
	var b []byte
	x, y := 1, 1
	for i := range 23 {
		b = append(b, bytes.Repeat([]byte{byte(7 * i)}, x)...)
		x, y = y, x+y
	}
	wantAtEachLevel(t, "in order", string(b))
	rand.New(rand.NewSource(6)).Shuffle(len(b), func(i, j int) { b[i], b[j] = b[j], b[i] })
	wantAtEachLevel(t, "shuffled", string(b))
	wantAtEachLevel(t, "rare bytes", rareAmongNoise())
}

// rareAmongNoise is one block in which no three bytes come twice, so that there are hardly any copies, and some bytes are so rare that their codes would have up to 17 bits.
func rareAmongNoise() string {
	r := rand.New(rand.NewSource(6))
	b := make([]byte, 65535)
	place := 0
	for i, times := range []int{2, 3, 6, 10, 18, 31, 56, 100, 180, 324} {
		for range times {
			b[place] = byte(i + 1)
			place += 40
		}
	}
	seen := map[[3]byte]bool{}
	for i := 2; i < len(b); i++ {
		for b[i] == 0 || b[i] >= 20 && seen[[3]byte(b[i-2:])] {
			b[i] = byte(20 + r.Intn(128))
		}
		seen[[3]byte(b[i-2:])] = true
	}
	return string(b)
}

// TestP6PeriodThatEnds: what is tried first for a piece over and over must not be believed where the text goes on otherwise.
func TestP6PeriodThatEnds(t *testing.T) {
	var thrice []byte
	for c := range 256 {
		thrice = append(thrice, byte(c), byte(c), byte(c))
	}
	for _, piece := range []string{"a", "ab", "aab", noise(100), noise(30000)} {
		b := strings.Repeat(piece, 70000/len(piece))
		wantAtEachLevel(t, "each byte thrice behind", b+string(thrice))
		wantAtEachLevel(t, "few letters behind", b+fewLetters(5000, 3, 6))
		wantAtEachLevel(t, "noise behind", b+noise(5000))
	}
}

func TestP6AnyBytes(t *testing.T) {
	r := rand.New(rand.NewSource(6))
	for range 300 {
		var b strings.Builder
		for range r.Intn(20) {
			switch r.Intn(4) {
			case 0:
				b.WriteString(noise(r.Intn(400)))
			case 1:
				b.WriteString(fewLetters(r.Intn(2000), 1+r.Intn(40), r.Int63()))
			case 2:
				b.WriteString(strings.Repeat(noise(1+r.Intn(30)), r.Intn(60)))
			case 3:
				at := r.Intn(b.Len() + 1)
				b.WriteString(b.String()[at : at+r.Intn(b.Len()-at+1)])
			}
		}
		wantAtEachLevel(t, "any bytes", b.String()[:min(b.Len(), 150000)])
	}
}

// wantSmall: a piece over and over is small at Fixed and Dynamic.
func wantSmall(t *testing.T, name, piece string, size int) {
	t.Helper()
	b := strings.Repeat(piece, size/len(piece)+1)[:size]
	for level := api.Fixed; level <= api.Dynamic; level++ {
		packed, e := mosaic.Deflate(b, level)
		if most := 2*len(piece) + 50 + len(b)/50; e != api.OK || len(packed) > most {
			t.Errorf("P6: %s, a piece of %d bytes, %d in all, at %d: %d bytes, error %d; at most %d may be", name, len(piece), len(b), level, len(packed), e, most)
		}
		if out, used, e := mosaic.Inflate(packed, len(b)); out != b || used != len(packed) || e != api.OK {
			t.Errorf("P6: %s, a piece of %d bytes, %d in all, at %d: Inflate: %d bytes, %d used, error %d", name, len(piece), len(b), level, len(out), used, e)
		}
	}
}

// begunAlike is a piece in which very many places begin with the same bytes, so that the right one is hard to find.
func begunAlike(size int) string {
	r := rand.New(rand.NewSource(int64(size)))
	var b strings.Builder
	for b.Len() < size {
		b.WriteString("abc")
		b.WriteByte(byte(r.Intn(256)))
	}
	return b.String()[:size]
}

// shortRuns is a piece of runs that are so short, and so alike, that nearly all of it came before.
func shortRuns(size int) string {
	r := rand.New(rand.NewSource(int64(size)))
	var b strings.Builder
	for b.Len() < size {
		b.WriteString("aaab"[r.Intn(2):])
	}
	return b.String()[:size]
}

func eachPiece(size int, do func(name, piece string)) {
	do("noise", noise(size))
	do("high noise", highNoise(size))
	do("one letter", strings.Repeat("a", size))
	do("one letter, but the last", strings.Repeat("a", size-1)+"b")
	do("two letters", fewLetters(size, 2, int64(size)))
	do("begun alike", begunAlike(size))
	do("short runs", shortRuns(size))
	do("half and half alike", (noise((size+1)/2) + noise((size+1)/2))[:size])
}

func TestP6SmallPieces(t *testing.T) {
	t.Parallel()
	for size := 1; size <= 270; size++ {
		eachPiece(size, func(name, piece string) {
			for _, times := range []int{1, 2, 5} {
				wantSmall(t, name, piece, times*size)
			}
			wantSmall(t, name, piece, 3000/size*size)
		})
	}
}

func TestP6LargePieces(t *testing.T) {
	t.Parallel()
	for _, size := range []int{1, 3, 257, 258, 259, 400, 1365, 5000, 16384, 19999, 20000} {
		eachPiece(size, func(name, piece string) {
			for _, times := range []int{1, 2, 3} {
				wantSmall(t, name, piece, times*size)
			}
			wantSmall(t, name, piece, 200000/size*size)
		})
	}
}

// TestP6LongTexts: what one byte for each 50 allows counts only if all copies are long.
func TestP6LongTexts(t *testing.T) {
	t.Parallel()
	for _, size := range []int{50, 20000} {
		eachPiece(size, func(name, piece string) { wantSmall(t, name, piece, 700000) })
	}
}

// TestP11InflateOfDeflate: with a limit of just its size, and not with a lower one.
func TestP11InflateOfDeflate(t *testing.T) {
	for _, b := range []string{"", "a", "abc", noise(500), strings.Repeat("mosaic ", 300), fewLetters(70000, 3, 11)} {
		for level := api.Stored; level <= api.Dynamic; level++ {
			packed := wantDeflate(t, "P11", b, level)
			wantInflate(t, "P11, more behind", packed+"\xff\x00", math.MaxInt, b, len(packed))
			if len(b) > 0 {
				wantRefusal(t, "P11", packed, len(b)-1, api.ErrLimit)
			}
			for cut := 1; cut <= min(len(packed), 40); cut++ {
				wantRefusal(t, "P11, cut off", packed[:len(packed)-cut], len(b), api.ErrDeflate)
			}
		}
	}
}

// TestP2DeflateAlone: the same bytes are packed in the same way, whatever was packed ahead of them.
func TestP2DeflateAlone(t *testing.T) {
	texts := []string{"", noise(3000), fewLetters(30000, 4, 2), shortRuns(5000), begunAlike(5000), strings.Repeat(noise(77), 99)}
	for level := api.Stored; level <= api.Dynamic; level++ {
		var first []string
		for _, b := range texts {
			packed, _ := mosaic.Deflate(b, level)
			first = append(first, packed)
		}
		for range 5 {
			for i := len(texts) - 1; i >= 0; i-- {
				if packed, _ := mosaic.Deflate(texts[i], level); packed != first[i] {
					t.Fatalf("P2: text %d at %d is packed in another way", i, level)
				}
			}
		}
	}
}
