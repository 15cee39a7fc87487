package mosaic_test

import (
	"bytes"
	"compress/flate"
	"math"
	"math/rand"
	"strings"
	"testing"
	"unsafe"

	"mosaic/api"
	"mosaic/mosaic"
)

var anyNumbers = []int{math.MinInt, math.MinInt32, -5000, -1, 0, 1, 2, 3, 4, 6, 7, 8, 16, 255, 256, 5000, 5001, 65536, math.MaxInt32, math.MaxInt}

// spoiled are bytes that are nearly packed bytes: some bits are turned, or pieces missing.
func spoiled(r *rand.Rand) string {
	b := make([]byte, r.Intn(80))
	r.Read(b)
	if r.Intn(4) > 0 {
		var w bytes.Buffer
		z, _ := flate.NewWriter(&w, r.Intn(12)-2)
		z.Write([]byte(strings.Repeat(string(b), 1+r.Intn(5))))
		z.Close()
		b = w.Bytes()
		for range r.Intn(4) {
			b[r.Intn(len(b))] ^= 1 << r.Intn(8)
		}
		b = b[:len(b)-r.Intn(len(b))/4]
	}
	return string(b)
}

// TestP1Inflate: it ends, no panic leaves it, and beside an error all is 0.
func TestP1Inflate(t *testing.T) {
	r := rand.New(rand.NewSource(1))
	seen := map[api.Errno]int{}
	for range 5000 {
		b, limit := spoiled(r), anyNumbers[r.Intn(len(anyNumbers))]
		out, used, e := mosaic.Inflate(b, limit)
		seen[e]++
		switch {
		case e != api.OK && (out != "" || used != 0):
			t.Fatalf("P1: Inflate(%x, %d): %q, %d beside error %d", b, limit, out, used, e)
		case e != api.OK && e != api.ErrDeflate && e != api.ErrLimit:
			t.Fatalf("P1: Inflate(%x, %d): error %d", b, limit, e)
		case e == api.OK && (used < 1 || used > len(b) || len(out) > max(limit, 0)):
			t.Fatalf("P5: Inflate(%x, %d): %d bytes, %d used", b, limit, len(out), used)
		}
	}
	if seen[api.OK] < 100 || seen[api.ErrDeflate] < 100 || seen[api.ErrLimit] < 100 {
		t.Errorf("the inputs bring too little: %v", seen)
	}
}

// TestP1ShortInputs: all strings of one or two bytes.
func TestP1ShortInputs(t *testing.T) {
	for n := range 1 << 8 {
		wantRefusal(t, "one byte", string([]byte{byte(n)}), 9, api.ErrDeflate)
	}
	for n := range 1 << 16 {
		b := string([]byte{byte(n), byte(n >> 8)})
		// Two bytes hold no more than an empty block of kind 1, whose ten bits are 1, 1, 0 and noughts.
		if n&0x3ff == 3 {
			wantInflate(t, "an empty block", b, 0, "", 2)
		} else {
			wantRefusal(t, "two bytes", b, 9, api.ErrDeflate)
		}
	}
}

// TestP1ManyBlocks: blocks without a byte, as many as there may be.
func TestP1ManyBlocks(t *testing.T) {
	p := new(packer)
	for range 200000 {
		p.head(false, 1).fixed(256)
	}
	wantRefusal(t, "no last block", p.String(), 9, api.ErrDeflate)
	p.head(true, 1).fixed(256)
	wantInflate(t, "many blocks", p.String(), 0, "", len(p.bytes))
}

func TestP1Check(t *testing.T) {
	lists := [][]int{nil, {}, {0}, {1, 2, 3}, {math.MinInt, math.MaxInt, 0}, make([]int, 12)}
	r := rand.New(rand.NewSource(2))
	any := func() int { return anyNumbers[r.Intn(len(anyNumbers))] }
	for range 200000 {
		m := api.Image{Width: any(), Height: any(), Kind: any(), Depth: any(), Passes: r.Intn(2) == 0, Palette: lists[r.Intn(len(lists))], Samples: lists[r.Intn(len(lists))]}
		if e := mosaic.Check(m); e < api.OK || e > api.ErrSamples {
			t.Fatalf("P1: Check(%+v): %d", m, e)
		}
	}
}

// TestP2InflateIsNewMemory: what comes out is no piece of what went in.
func TestP2InflateIsNewMemory(t *testing.T) {
	b := new(packer).stored(true, strings.Repeat("mosaic", 1000)).String()
	out, _, e := mosaic.Inflate(b, len(b))
	if e != api.OK {
		t.Fatal(e)
	}
	from, at := uintptr(unsafe.Pointer(unsafe.StringData(b))), uintptr(unsafe.Pointer(unsafe.StringData(out)))
	if at >= from && at < from+uintptr(len(b)) {
		t.Error("P2: the answer lies within the argument")
	}
}

// TestP2ArgumentsAlone: answers do not change with what was asked ahead of them.
func TestP2ArgumentsAlone(t *testing.T) {
	type answer struct {
		out        string
		used       int
		e          api.Errno
		crc, adler int
	}
	ask := func(b string) answer {
		out, used, e := mosaic.Inflate(b, 200)
		return answer{out, used, e, mosaic.Crc(b), mosaic.Adler(b)}
	}
	r := rand.New(rand.NewSource(3))
	var asked []string
	var first []answer
	for range 500 {
		b := spoiled(r)
		asked, first = append(asked, b), append(first, ask(b))
	}
	for range 2000 {
		i := r.Intn(len(asked))
		if again := ask(asked[i]); again != first[i] {
			t.Fatalf("P2: of %x: %v, then %v", asked[i], first[i], again)
		}
	}
}
