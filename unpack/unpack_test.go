package unpack

import (
	"bytes"
	"compress/flate"
	"math/rand"
	"strings"
	"testing"

	"mosaic/fault"
)

// caughtFrom is what Bytes panics with, or nil.
func caughtFrom(b string, limit int) (caught any) {
	defer func() { caught = recover() }()
	Bytes(b, limit)
	return nil
}

// TestGivesUpByFaultAlone: the call's face hides other panics, so they are looked for here.
func TestGivesUpByFaultAlone(t *testing.T) {
	r := rand.New(rand.NewSource(1))
	for level := flate.HuffmanOnly; level <= flate.BestCompression; level++ {
		noise := make([]byte, 90)
		r.Read(noise)
		var w bytes.Buffer
		z, err := flate.NewWriter(&w, level)
		if err != nil {
			t.Fatal(err)
		}
		z.Write([]byte(strings.Repeat(string(noise), 3)))
		z.Close()
		for n := range w.Len() {
			wantFault(t, string(w.Bytes()[:n]), 1000)
			for bit := range 8 {
				turned := bytes.Clone(w.Bytes())
				turned[n] ^= 1 << bit
				wantFault(t, string(turned), r.Intn(300)-1)
			}
		}
	}
}

func wantFault(t *testing.T, b string, limit int) {
	t.Helper()
	switch caught := caughtFrom(b, limit).(type) {
	case nil, fault.Fault:
	default:
		t.Errorf("Bytes(%x, %d) panics with %v", b, limit, caught)
	}
}
