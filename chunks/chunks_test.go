package chunks

import (
	"hash/crc32"
	"slices"
	"testing"

	"mosaic/fault"
	"mosaic/numbers"
)

func written(c Chunk) string {
	crc := crc32.ChecksumIEEE([]byte(c.Name + c.Bytes))
	return numbers.ToFour(len(c.Bytes)) + c.Name + c.Bytes + numbers.ToFour(int(crc))
}

// read are the chunks that Each hands on, and what it gives up with.
func read(b string) (list []Chunk, caught any) {
	defer func() { caught = recover() }()
	Each(b, func(c Chunk) { list = append(list, c) })
	return list, nil
}

func TestEachAndFile(t *testing.T) {
	for _, want := range [][]Chunk{
		nil,
		{{"IEND", ""}},
		{{"IHDR", "\x00\x01"}, {"aaaa", signature}, {"ZZZZ", ""}, {"zzzz", "\xff"}},
	} {
		b := signature
		for _, c := range want {
			b += written(c)
		}
		if got, caught := read(b); caught != nil || !slices.Equal(got, want) {
			t.Errorf("%v, given up with %v; want %v", got, caught, want)
		}
		file := File(func(put func(c Chunk)) {
			for _, c := range want {
				put(c)
			}
		})
		if file != b {
			t.Errorf("the file of %v is %x, want %x", want, file, b)
		}
	}
}

// TestGivesUpByFaultAlone: the call's face hides other panics, so they are looked for here.
func TestGivesUpByFaultAlone(t *testing.T) {
	right := signature + written(Chunk{"IHDR", "bytes"}) + written(Chunk{"IEND", ""})
	for n := range len(right) {
		wantFault(t, right[:n], n == len(signature) || n == len(signature)+17)
		for bit := range 8 {
			turned := []byte(right)
			turned[n] ^= 1 << bit
			wantFault(t, string(turned), false)
		}
	}
}

func wantFault(t *testing.T, b string, whole bool) {
	t.Helper()
	_, caught := read(b)
	if _, given := caught.(fault.Fault); given == whole || !given && caught != nil {
		t.Errorf("of %x: %v", b, caught)
	}
}

func TestNeeded(t *testing.T) {
	for name, want := range map[string]bool{"IDAT": true, "Zaaa": true, "Aaaa": true, "tEXt": false, "aZZZ": false, "zZZZ": false} {
		if (Chunk{Name: name}).Needed() != want {
			t.Errorf("%s: %v", name, !want)
		}
	}
}
