package mosaic_test

import (
	"bytes"
	"compress/flate"
	"math"
	"math/rand"
	"strings"
	"testing"

	"mosaic/api"
	"mosaic/mosaic"
)

func wantInflate(t *testing.T, name, packed string, limit int, want string, used int) {
	t.Helper()
	out, n, e := mosaic.Inflate(packed, limit)
	if out != want || n != used || e != api.OK {
		t.Errorf("P5: %s, limit %d: %d bytes, %d used, error %d; want %d bytes, %d used", name, limit, len(out), n, e, len(want), used)
	}
}

func wantRefusal(t *testing.T, name, packed string, limit int, want api.Errno) {
	t.Helper()
	out, n, e := mosaic.Inflate(packed, limit)
	if out != "" || n != 0 || e != want {
		t.Errorf("P5: %s, limit %d: %q, %d used, error %d, want %d", name, limit, out, n, e, want)
	}
}

func TestP5Examples(t *testing.T) {
	for _, c := range []struct {
		packed, out string
		used        int
	}{
		{"03 00", "", 2},
		{"4b 04 00", "a", 3},
		{"01 03 00 fc ff 61 62 63", "abc", 8},
		{"4b 04 02 00", "aaaa", 4},
		{"01 00 00 ff ff", "", 5},
		{"00 01 00 fe ff 78 03 00", "x", 8},
		{"00 01 00 fe ff 78 01 01 00 fe ff 79", "xy", 12},
	} {
		packed := unhex(t, c.packed)
		wantInflate(t, c.packed, packed, 100, c.out, c.used)
		wantInflate(t, c.packed+" with more behind it", packed+"\x07more", 100, c.out, c.used)
		wantInflate(t, c.packed, packed, len(c.out), c.out, c.used)
		wantInflate(t, c.packed, packed, math.MaxInt, c.out, c.used)
		for n := range len(packed) {
			wantRefusal(t, c.packed+" cut off", packed[:n], 100, api.ErrDeflate)
		}
	}
	wantRefusal(t, "07", "\x07", 100, api.ErrDeflate)
	wantRefusal(t, "kind 3, not last", "\x06\x00\x00", 100, api.ErrDeflate)
	wantRefusal(t, "nothing", "", 100, api.ErrDeflate)
}

// TestP5RestOfByte: what is left of a byte ahead of kind 0 is left out, whatever it is, and may be nothing.
func TestP5RestOfByte(t *testing.T) {
	wantInflate(t, "five bits left", unhex(t, "f9 01 00 fe ff 61"), 9, "a", 6)
	p := new(packer).head(false, 1).fixed(200, 201, 202, 256).head(true, 0)
	if p.bits != 40 {
		t.Fatalf("the head ends at bit %d, not at a byte's end", p.bits)
	}
	p.number(1, 16).number(^1, 16).number('z', 8)
	wantInflate(t, "nothing left", p.String(), 9, "\xc8\xc9\xcaz", 10)
}

func TestP5Used(t *testing.T) {
	p := new(packer).head(true, 1).fixed(200, 200, 200, 200, 200, 200, 256)
	if p.bits != 64 {
		t.Fatalf("%d bits, not whole bytes", p.bits)
	}
	wantInflate(t, "the last byte used up", p.String()+"\xff", 9, strings.Repeat("\xc8", 6), 8)
	for ones := range 8 {
		p := new(packer).head(true, 1)
		for range ones {
			p.fixed(255)
		}
		p.fixed(256)
		wantInflate(t, "the last byte used in part", p.String()+"\xff\xff", 9, strings.Repeat("\xff", ones), (3+9*ones+7+7)/8)
	}
}

func TestP5EachByteFixed(t *testing.T) {
	p := new(packer).head(true, 1)
	var want []byte
	for c := range 256 {
		p.fixed(c)
		want = append(want, byte(c))
	}
	p.fixed(256)
	wantInflate(t, "all bytes", p.String(), 256, string(want), len(p.bytes))
}

func noise(count int) string {
	b := make([]byte, count)
	rand.New(rand.NewSource(int64(count))).Read(b)
	return string(b)
}

// leasts: what the copies' symbols and the distances stand for, and their extra bits, as written out in any book on them.
var (
	leastLengths   = []int{3, 4, 5, 6, 7, 8, 9, 10, 11, 13, 15, 17, 19, 23, 27, 31, 35, 43, 51, 59, 67, 83, 99, 115, 131, 163, 195, 227, 258}
	lengthExtras   = []int{0, 0, 0, 0, 0, 0, 0, 0, 1, 1, 1, 1, 2, 2, 2, 2, 3, 3, 3, 3, 4, 4, 4, 4, 5, 5, 5, 5, 0}
	leastDistances = []int{1, 2, 3, 4, 5, 7, 9, 13, 17, 25, 33, 49, 65, 97, 129, 193, 257, 385, 513, 769, 1025, 1537, 2049, 3073, 4097, 6145, 8193, 12289, 16385, 24577}
	distanceExtras = []int{0, 0, 0, 0, 1, 1, 2, 2, 3, 3, 4, 4, 5, 5, 6, 6, 7, 7, 8, 8, 9, 9, 10, 10, 11, 11, 12, 12, 13, 13}
)

func copied(b string, length, distance int) string {
	out := []byte(b)
	for range length {
		out = append(out, out[len(out)-distance])
	}
	return string(out)
}

func TestP5Copies(t *testing.T) {
	ahead := noise(32768)
	stored := new(packer).stored(false, ahead)
	for i, leastLength := range leastLengths {
		for j, leastDistance := range leastDistances {
			for _, extras := range [][2]int{{0, 0}, {1<<lengthExtras[i] - 1, 1<<distanceExtras[j] - 1}, {lengthExtras[i] / 2, distanceExtras[j] / 2}} {
				p := &packer{bytes.Clone(stored.bytes), stored.bits}
				p.head(true, 1).fixed(257+i).number(extras[0], lengthExtras[i])
				p.code(j, 5).number(extras[1], distanceExtras[j]).fixed(256)
				want := copied(ahead, leastLength+extras[0], leastDistance+extras[1])
				wantInflate(t, "a copy", p.String(), len(want), want, len(p.bytes))
			}
		}
	}
}

// TestP5CopyReach: a copy may reach back just to the first byte that came out, into earlier blocks and into itself.
func TestP5CopyReach(t *testing.T) {
	for count := 1; count <= 3; count++ {
		for j := range 4 {
			p := new(packer).stored(false, "xyz"[:count]).head(true, 1).fixed(258).code(j, 5).fixed(256)
			if j+1 <= count {
				want := copied("xyz"[:count], 4, j+1)
				wantInflate(t, "a copy within", p.String(), 100, want, len(p.bytes))
				wantRefusal(t, "a copy that is too long", p.String(), len(want)-1, api.ErrLimit)
			} else {
				wantRefusal(t, "a copy from ahead of the first byte", p.String(), 100, api.ErrDeflate)
				wantRefusal(t, "a copy from ahead of the first byte that is too long", p.String(), count, api.ErrDeflate)
			}
		}
	}
	p := new(packer).head(true, 1).fixed(257).code(0, 5).fixed(256)
	wantRefusal(t, "a copy of nothing", p.String(), 100, api.ErrDeflate)
	wantRefusal(t, "a copy of nothing", p.String(), 0, api.ErrDeflate)
	far := noise(32767)
	p = new(packer).stored(false, far).head(true, 1).fixed(257).code(29, 5).number(8191, 13).fixed(256)
	wantRefusal(t, "the farthest distance, a byte too far", p.String(), math.MaxInt, api.ErrDeflate)
}

func TestP5FixedCodesThatMeanNothing(t *testing.T) {
	for _, symbol := range []int{286, 287} {
		p := new(packer).head(true, 1).fixed('a', symbol).number(0, 64)
		wantRefusal(t, "a symbol above 285", p.String(), 100, api.ErrDeflate)
		wantRefusal(t, "a symbol above 285 at the limit", p.String(), 1, api.ErrDeflate)
	}
	for _, distance := range []int{30, 31} {
		p := new(packer).stored(false, noise(40000)).head(true, 1).fixed(257).code(distance, 5).number(0, 64)
		wantRefusal(t, "a distance above 29", p.String(), 50000, api.ErrDeflate)
		wantRefusal(t, "a distance above 29 at the limit", p.String(), 40000, api.ErrDeflate)
	}
}

func TestP5Limit(t *testing.T) {
	abc, stored := unhex(t, "4b 4c 4a 06 00"), unhex(t, "01 03 00 fc ff 61 62 63")
	for _, limit := range []int{math.MinInt, -2, -1, 0, 1, 2} {
		wantRefusal(t, "three symbols", abc, limit, api.ErrLimit)
		wantRefusal(t, "three stored bytes", stored, limit, api.ErrLimit)
	}
	for _, limit := range []int{3, 4, math.MaxInt} {
		wantInflate(t, "three symbols", abc, limit, "abc", 5)
		wantInflate(t, "three stored bytes", stored, limit, "abc", 8)
	}
	for _, limit := range []int{math.MinInt, -1, 0, 1} {
		wantInflate(t, "no byte", unhex(t, "03 00"), limit, "", 2)
		wantInflate(t, "no stored byte", unhex(t, "01 00 00 ff ff"), limit, "", 5)
		p := new(packer).dynamic(twoSymbols, []int{0}).code(1, 1)
		wantInflate(t, "no byte of kind 2", p.String(), limit, "", len(p.bytes))
	}
	both := new(packer).stored(false, "ab").stored(true, "c").String()
	wantRefusal(t, "two blocks", both, 2, api.ErrLimit)
	wantInflate(t, "two blocks", both, 3, "abc", len(both))
}

// TestP5FirstError: of ErrLimit and ErrDeflate the one that is met first.
func TestP5FirstError(t *testing.T) {
	start := func() *packer { return new(packer).head(false, 1).fixed('a', 'b', 'c') }
	// Fewer than five bits are left of the last byte: no distance is there.
	noDistance := new(packer).head(false, 1).fixed(200, 'b', 'c', 285)
	for _, c := range []struct {
		name   string
		packed string
		limit  int
		want   api.Errno
	}{
		{"a byte too many, then kind 3", start().fixed(256).head(true, 3).String(), 2, api.ErrLimit},
		{"kind 3, at the limit", start().fixed(256).head(true, 3).String(), 3, api.ErrDeflate},
		{"a byte too many, then the end", start().String(), 2, api.ErrLimit},
		{"the end at the limit", start().String(), 3, api.ErrDeflate},
		{"a copy without a distance", noDistance.String(), 4, api.ErrDeflate},
		{"a copy whose distance has too few extra bits", start().fixed(285).code(8, 5).String(), 4, api.ErrDeflate},
		{"a copy too long, nothing behind", start().fixed(285).code(0, 5).String(), 4, api.ErrLimit},
		{"a copy too long, kind 3 behind", start().fixed(285).code(2, 5).fixed(256).head(true, 3).String(), 260, api.ErrLimit},
		{"a copy just long enough, kind 3 behind", start().fixed(285).code(2, 5).fixed(256).head(true, 3).String(), 261, api.ErrDeflate},
		{"a copy too long and too far", start().fixed(285).code(3, 5).number(0, 40).String(), 4, api.ErrDeflate},
		{"a copy too long, its distance is none", start().fixed(285).code(31, 5).number(0, 40).String(), 4, api.ErrDeflate},
		{"stored bytes that are missing", unhex(t, "01 03 00 fc ff 61"), 3, api.ErrDeflate},
		{"stored bytes that are missing and too many", unhex(t, "01 03 00 fc ff 61"), 2, api.ErrLimit},
		{"no stored byte there, too many", unhex(t, "01 03 00 fc ff"), 2, api.ErrLimit},
		{"the turned number is missing", unhex(t, "01 03 00 fc"), 2, api.ErrDeflate},
		{"the numbers do not agree", unhex(t, "01 03 00 fd ff 61 62 63"), 2, api.ErrDeflate},
		{"stored bytes too many, with a limit below 0", unhex(t, "01 01 00 fe ff"), -1, api.ErrLimit},
		{"stored bytes missing behind others", new(packer).stored(false, "ab").String() + unhex(t, "01 02 00 fd ff 61"), 4, api.ErrDeflate},
		{"stored bytes too many behind others", new(packer).stored(false, "ab").String() + unhex(t, "01 02 00 fd ff 61"), 3, api.ErrLimit},
		{"no codes of kind 2, at the limit", new(packer).stored(false, "ab").head(true, 2).number(31, 5).number(0, 200).String(), 2, api.ErrDeflate},
	} {
		wantRefusal(t, c.name, c.packed, c.limit, c.want)
	}
}

func TestP5TurnedNumber(t *testing.T) {
	right := []byte(unhex(t, "01 03 00 fc ff 61 62 63"))
	for place := 8; place < 40; place++ {
		b := bytes.Clone(right)
		b[place/8] ^= 1 << (place % 8)
		wantRefusal(t, "a bit of the numbers turned", string(b), 100, api.ErrDeflate)
	}
	long := noise(65535)
	wantInflate(t, "as many bytes as may be", new(packer).stored(true, long).String(), 65535, long, 65540)
	wantRefusal(t, "as many bytes as may be, one missing", new(packer).stored(true, long).String()[:65539], 65535, api.ErrDeflate)
}

// TestP5AgainstTheLibrary: what another one packed, whole, cut off anywhere, and with each lower limit.
func TestP5AgainstTheLibrary(t *testing.T) {
	r := rand.New(rand.NewSource(5))
	for level := flate.HuffmanOnly; level <= flate.BestCompression; level++ {
		for range 10 {
			b := strings.Repeat(noise(r.Intn(60)), 1+r.Intn(4)) + strings.Repeat("ab", r.Intn(400))
			var w bytes.Buffer
			z, err := flate.NewWriter(&w, level)
			if err != nil {
				t.Fatal(err)
			}
			z.Write([]byte(b[:len(b)/2]))
			z.Flush()
			z.Write([]byte(b[len(b)/2:]))
			z.Close()
			packed := w.String()
			wantInflate(t, "another one's", packed+"\x00", len(b), b, len(packed))
			for n := range len(packed) {
				wantRefusal(t, "another one's, cut off", packed[:n], len(b), api.ErrDeflate)
			}
			for limit := -1; limit < len(b); limit += 1 + len(b)/20 {
				wantRefusal(t, "another one's", packed, limit, api.ErrLimit)
			}
		}
	}
	long := strings.Repeat(noise(5000), 20)
	var w bytes.Buffer
	z, _ := flate.NewWriter(&w, 9)
	z.Write([]byte(long))
	z.Close()
	wantInflate(t, "a long one", w.String(), len(long), long, w.Len())
}
