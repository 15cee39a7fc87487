package mosaic_test

import (
	"fmt"
	"math"
	"math/rand"
	"regexp"
	"slices"
	"strings"
	"testing"

	"mosaic/api"
	"mosaic/mosaic"
)

// onePoint are the pieces of a file of one grey point; its raw size is 2.
func onePoint() (api.Image, pieces) {
	m := api.Image{Width: 1, Height: 1, Depth: 8, Samples: []int{7}}
	return m, piecesOf(m, "\x00\x07")
}

func TestP9Signature(t *testing.T) {
	_, p := onePoint()
	right := p.String()
	for n := range len(signature) {
		wantDecodeError(t, "cut off", right[:n], 9, api.ErrSignature)
		for bit := range 8 {
			wrong := []byte(right)
			wrong[n] ^= 1 << bit
			wantDecodeError(t, "a bit turned", string(wrong), 9, api.ErrSignature)
			wantDecodeError(t, "a bit turned, and nothing behind", string(wrong[:8]), 9, api.ErrSignature)
		}
	}
	wantDecodeError(t, "no signature", right[8:], 9, api.ErrSignature)
	wantDecodeError(t, "a byte ahead", "\x00"+right, 9, api.ErrSignature)
	wantDecodeError(t, "nothing behind", signature, 9, api.ErrOrder)
}

func TestP9CutOff(t *testing.T) {
	_, p := onePoint()
	right := p.String()
	ends := map[int]bool{8: true, 8 + 25: true, len(right) - 12: true}
	for n := 8; n < len(right); n++ {
		want := api.ErrChunk
		if ends[n] {
			want = api.ErrOrder
		}
		wantDecodeError(t, "cut off", right[:n], 9, want)
	}
	for more := 1; more <= 14; more++ {
		wantDecodeError(t, "noughts behind", right+strings.Repeat("\x00", more), 9, api.ErrChunk)
	}
	wantDecodeError(t, "a byte between", signature+"\x00"+right[8:], 9, api.ErrChunk)
}

func TestP9ChunkBytes(t *testing.T) {
	_, p := onePoint()
	p.behind = []string{chunkOf("teXt", "some words")}
	right := []byte(p.String())
	for place := 8 * 8; place < 8*len(right); place++ {
		wrong := slices.Clone(right)
		wrong[place/8] ^= 1 << (place % 8)
		// Each bit is told, or checked by a CRC; a count may come to name other chunks only by an unlikely CRC.
		wantDecodeError(t, "a bit turned", string(wrong), 9, api.ErrChunk)
	}
	for _, count := range []int{9, 11, 22, 23, 1 << 16, math.MaxInt32, math.MaxInt32 + 1, math.MaxUint32} {
		p.behind = []string{fourBytes(count) + chunkOf("teXt", "some words")[4:]}
		wantDecodeError(t, "another count", p.String(), 9, api.ErrChunk)
	}
}

func TestP9ChunkNames(t *testing.T) {
	m, p := onePoint()
	for place := range 4 {
		for n := range 256 {
			name := []byte("text")
			name[place] = byte(n)
			p.ahead = []string{chunkOf(string(name), "x")}
			switch letter := n >= 'A' && n <= 'Z' || n >= 'a' && n <= 'z'; {
			case !letter:
				wantDecodeError(t, "no letter", p.String(), 9, api.ErrChunk)
			case place == 0 && n <= 'Z':
				wantDecodeError(t, "a capital letter first", p.String(), 9, api.ErrOrder)
			default:
				wantDecode(t, "a letter", p.String(), 9, m)
			}
		}
	}
}

// TestP9Order: all lists of up to six chunks of some names, held against the order that may be.
func TestP9Order(t *testing.T) {
	m := api.Image{Width: 1, Height: 1, Kind: 2, Depth: 8, Samples: []int{1, 2, 3}}
	wrapped := wrappedBy("\x00\x01\x02\x03")
	chunk := map[byte]string{
		'h': chunkOf("IHDR", headBytes(m)),
		'p': chunkOf("PLTE", "abc"),
		'e': chunkOf("IEND", ""),
		's': chunkOf("tEXt", "IDAT"),
		'c': chunkOf("TEXt", ""),
	}
	mayBe := regexp.MustCompile("^hs*(ps*)?d+s*e$")
	taken := 0
	var look func(names string)
	look = func(names string) {
		b, data := signature, wrapped
		for i := range len(names) {
			if names[i] == 'd' {
				// All the data in the first one.
				b, data = b+chunkOf("IDAT", data), ""
			}
			b += chunk[names[i]]
		}
		if mayBe.MatchString(names) {
			taken++
			wantDecode(t, names, b, 4, m)
		} else {
			wantDecodeError(t, names, b, 4, api.ErrOrder)
		}
		if len(names) < 6 {
			for _, next := range "hpdesc" {
				look(names + string(next))
			}
		}
	}
	look("")
	if taken != 1+4+10+20 {
		t.Errorf("%d orders are taken", taken)
	}
}

func TestP9End(t *testing.T) {
	_, p := onePoint()
	for _, end := range []string{"\x00", "x", noise(99)} {
		p.end = end
		wantDecodeError(t, "an end with bytes", p.String(), 9, api.ErrOrder)
	}
}

// wantHead: a head that is right is known by the limit that comes behind it.
func wantHead(t *testing.T, name, head string, right bool) {
	t.Helper()
	_, p := onePoint()
	p.head = head
	want := api.ErrHead
	if right {
		want = api.ErrLimit
	}
	wantDecodeError(t, name, p.String(), -1, want)
}

func TestP9HeadSize(t *testing.T) {
	_, p := onePoint()
	for n := range 40 {
		wantHead(t, "a size", (p.head + strings.Repeat("\x00", 40))[:n], n == 13)
	}
}

func TestP9HeadSides(t *testing.T) {
	for _, side := range []int{0, 1, 2, 4999, 5000, 5001, 1 << 16, 1<<24 + 1, math.MaxInt32, 1 << 31, 1<<31 + 1, math.MaxUint32} {
		right := side >= 1 && side <= 5000
		wantHead(t, "a width", fourBytes(side)+fourBytes(1)+"\x08\x00\x00\x00\x00", right)
		wantHead(t, "a height", fourBytes(1)+fourBytes(side)+"\x08\x00\x00\x00\x01", right)
	}
}

func TestP9HeadBytes(t *testing.T) {
	sides := fourBytes(1) + fourBytes(1)
	for depth := range 256 {
		for kind := range 256 {
			head := sides + string([]byte{byte(depth), byte(kind), 0, 0, 0})
			if depth < 20 || kind < 10 {
				wantHead(t, "kind and depth", head, pointSamples(kind, depth) > 0)
			}
		}
	}
	for n := range 256 {
		for place := 10; place <= 12; place++ {
			head := []byte(sides + "\x08\x00\x00\x00\x00")
			head[place] = byte(n)
			wantHead(t, "the last three bytes", string(head), n == 0 || n == 1 && place == 12)
		}
	}
}

// TestP9Palette: a palette that may be is known by the data that comes behind it.
func TestP9Palette(t *testing.T) {
	most := map[[2]int]int{{3, 1}: 2, {3, 2}: 4, {3, 4}: 16, {3, 8}: 256, {2, 8}: 256, {2, 16}: 256, {6, 8}: 256, {6, 16}: 256}
	for _, c := range kindsAndDepths {
		m := rightPicture(c[0], c[1], 2, 2)
		p := piecesOf(m, "")
		p.ahead, p.data = nil, []string{""}
		want := api.ErrZlib
		if c[0] == 3 {
			want = api.ErrPalette
		}
		wantDecodeError(t, "no palette", p.String(), 99, want)
		for _, n := range []int{0, 1, 2, 3, 4, 5, 6, 7, 8, 9, 11, 12, 13, 15, 47, 48, 49, 51, 765, 767, 768, 769, 770, 771, 774, 3000} {
			p.ahead = []string{chunkOf("PLTE", strings.Repeat("x", n))}
			want := api.ErrPalette
			if n%3 == 0 && n > 0 && n/3 <= most[c] {
				want = api.ErrZlib
			}
			wantDecodeError(t, fmt.Sprint("kind and depth ", c, ", a palette of ", n), p.String(), 99, want)
		}
	}
	for _, kind := range []int{2, 6} {
		m := rightPicture(kind, 8, 2, 2)
		p := piecesOf(m, plain.rows(m))
		p.ahead = []string{chunkOf("PLTE", strings.Repeat("x", 768))}
		wantDecode(t, "a palette that is not kept", p.String(), 99, m)
	}
}

func TestP9Data(t *testing.T) {
	m, p := onePoint()
	wrapped := p.data[0]
	for _, c := range []struct {
		name string
		data string
		want api.Errno
	}{
		{"nothing", "", api.ErrZlib},
		{"a byte", "\x78", api.ErrZlib},
		{"a wrong head", "\x78\x9d" + wrapped[2:], api.ErrZlib},
		{"a head alone", "\x78\x9c", api.ErrDeflate},
		{"kind 3", "\x78\x9c\x07", api.ErrDeflate},
		{"cut off", wrapped[:len(wrapped)-1], api.ErrZlib},
		{"a byte behind", wrapped + "\x00", api.ErrZlib},
		{"a wrong Adler", wrapped[:len(wrapped)-1] + "\x00", api.ErrAdler},
		{"no rows", wrappedBy(""), api.ErrSize},
		{"a byte too few", wrappedBy("\x00"), api.ErrSize},
		{"a byte too many", wrappedBy("\x00\x07\x00"), api.ErrSize},
		{"far too many", wrappedBy(strings.Repeat("\x00", 100000)), api.ErrSize},
		{"too many, and cut off", "\x78\x9c" + unhex(t, "01 03 00 fc ff 00"), api.ErrSize},
		{"too many, and a wrong Adler", "\x78\x9c" + unhex(t, "01 03 00 fc ff 00 00 00 00 00 00 00"), api.ErrSize},
		{"too few, and a wrong Adler", "\x78\x9c" + unhex(t, "01 01 00 fe ff 00 00 00 00 00"), api.ErrAdler},
		{"too few, and a byte behind", wrappedBy("\x00") + "\x00", api.ErrZlib},
		{"a wrong filter, too few", wrappedBy("\x05"), api.ErrSize},
	} {
		p.data = []string{c.data}
		for _, limit := range []int{2, 3, 1000, math.MaxInt} {
			wantDecodeError(t, c.name, p.String(), limit, c.want)
		}
	}
	p.data = []string{"\x78\x9c" + unhex(t, "01 02 00 fd ff 00 07 00 09 00 08")}
	wantDecode(t, "stored", p.String(), 2, m)
}

// TestP9Filter: each filter that there is not, in each row of each pass.
func TestP9Filter(t *testing.T) {
	r := rand.New(rand.NewSource(21))
	for _, passes := range []bool{false, true} {
		for _, c := range [][2]int{{0, 1}, {3, 2}, {2, 8}, {6, 16}} {
			m := anyPicture(r, c[0], c[1], 9, 9, passes)
			rows := 1
			for wrong := 0; wrong < rows; wrong++ {
				for _, filter := range []int{5, 6, 128, 255} {
					rows = 0
					raw := rowWriter{func(int) int {
						rows++
						if rows-1 == wrong {
							return filter
						}
						return 0
					}, plain.left}.rows(m)
					wantDecodeError(t, "no filter", piecesOf(m, raw).String(), len(raw), api.ErrFilter)
				}
			}
			if rows < 9 || passes && rows < 15 {
				t.Errorf("%d rows", rows)
			}
		}
	}
	one, _ := onePoint()
	for filter := range 256 {
		b := piecesOf(one, string([]byte{byte(filter), 7})).String()
		if filter <= 4 {
			wantDecode(t, "a filter", b, 2, one)
		} else {
			wantDecodeError(t, "no filter", b, 2, api.ErrFilter)
		}
	}
}

// TestP9Index: samples up to the last colour, in each place; what is left of a row's last byte is none.
func TestP9Index(t *testing.T) {
	for _, depth := range []int{1, 2, 4, 8} {
		for _, colours := range []int{1, 2, 3, 4, 5, 15, 16, 17, 128, 255, 256} {
			for place := range 2 * 9 {
				if colours > 1<<depth {
					continue
				}
				m := api.Image{Width: 3, Height: 3, Kind: 3, Depth: depth, Passes: place >= 9, Palette: make([]int, 3*colours), Samples: make([]int, 9)}
				ones := rowWriter{plain.filter, func() int { return 1 }}
				m.Samples[place%9] = colours - 1
				wantDecode(t, "the last colour", piecesOf(m, ones.rows(m)).String(), 99, m)
				for sample := colours; sample < 1<<depth; sample += 1 + sample/8 {
					m.Samples[place%9] = sample
					wantDecodeError(t, "no colour", piecesOf(m, ones.rows(m)).String(), 99, api.ErrIndex)
				}
			}
		}
	}
}

// TestP9FirstError: of any faults together the one that is named first.
func TestP9FirstError(t *testing.T) {
	type file struct {
		pieces
		raw   string
		adler int
		limit int
	}
	faults := []struct {
		e   api.Errno
		put func(f *file)
	}{
		{api.ErrSignature, func(f *file) { f.signature = "\x89PNG\r\n\x1a\r" }},
		{api.ErrChunk, func(f *file) { f.behindTheEnd = "\x00" }},
		{api.ErrOrder, func(f *file) { f.behind = []string{chunkOf("ABCD", "")} }},
		{api.ErrHead, func(f *file) { f.head = f.head[:10] + "\x01" + f.head[11:] }},
		{api.ErrLimit, func(f *file) { f.limit = 3 }},
		{api.ErrPalette, func(f *file) { f.ahead = []string{chunkOf("PLTE", "abcd")} }},
		{api.ErrAdler, func(f *file) { f.adler = 1 }},
		{api.ErrSize, func(f *file) { f.raw = f.raw[:3] }},
		{api.ErrFilter, func(f *file) { f.raw = f.raw[:2] + "\x05" + f.raw[3:] }},
		{api.ErrIndex, func(f *file) { f.raw = f.raw[:1] + "\x80" + f.raw[2:] }},
	}
	m := api.Image{Width: 1, Height: 2, Kind: 3, Depth: 1, Palette: []int{1, 2, 3}, Samples: []int{0, 0}}
	for set := range 1 << len(faults) {
		f, want := file{pieces: piecesOf(m, ""), raw: "\x00\x00\x00\x00", limit: 4}, api.OK
		for i := len(faults) - 1; i >= 0; i-- {
			if set>>i&1 == 1 {
				faults[i].put(&f)
				want = faults[i].e
			}
		}
		wrapped := []byte(wrappedBy(f.raw))
		wrapped[len(wrapped)-1] ^= byte(f.adler)
		f.data = []string{string(wrapped)}
		if want == api.OK {
			wantDecode(t, "no fault", f.String(), f.limit, m)
		} else {
			wantDecodeError(t, fmt.Sprintf("the faults %010b", set), f.String(), f.limit, want)
		}
	}
}

// TestP1Decode: it ends, no panic leaves it, and beside an error nothing comes out, whatever is wrong within chunks that are right.
func TestP1Decode(t *testing.T) {
	r := rand.New(rand.NewSource(22))
	seen := map[api.Errno]int{}
	for range 20000 {
		c := kindsAndDepths[r.Intn(len(kindsAndDepths))]
		m := anyPicture(r, c[0], c[1], 1+r.Intn(5), 1+r.Intn(5), r.Intn(2) == 0)
		raw := []byte(anyhow(r).rows(m))
		if r.Intn(2) == 0 {
			raw[r.Intn(len(raw))] ^= 1 << r.Intn(8)
		}
		p := piecesOf(m, string(raw))
		spoil := func(b string) string {
			wrong := []byte(b)
			if len(wrong) > 0 && r.Intn(8) == 0 {
				wrong[r.Intn(len(wrong))] ^= 1 << r.Intn(8)
			}
			if r.Intn(30) == 0 {
				wrong = wrong[:r.Intn(len(wrong)+1)]
			}
			return string(wrong)
		}
		p.head, p.data[0] = spoil(p.head), spoil(p.data[0])
		if r.Intn(20) == 0 {
			p.ahead = append(p.ahead, chunkOf("PLTE", noise(r.Intn(20))))
		}
		b := spoil(p.String())
		limit := anyNumbers[r.Intn(len(anyNumbers))]
		m, e := mosaic.Decode(b, limit)
		seen[e]++
		if e != api.OK && !isEmpty(m) {
			t.Fatalf("P1: Decode(%q, %d): %+v beside error %d", b, limit, m, e)
		}
		if e == api.OK && mosaic.Check(m) != api.OK {
			t.Fatalf("P9: Decode(%q, %d): a picture that Check refuses: %+v", b, limit, m)
		}
	}
	for _, e := range []api.Errno{api.OK, api.ErrSignature, api.ErrChunk, api.ErrOrder, api.ErrHead, api.ErrLimit, api.ErrPalette, api.ErrDeflate, api.ErrZlib, api.ErrAdler, api.ErrSize, api.ErrFilter, api.ErrIndex} {
		if seen[e] < 10 {
			t.Errorf("the inputs bring too little of %d: %v", e, seen)
		}
	}
}
