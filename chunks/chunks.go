// Package chunks: the signature and the chunks of a file, read and written. Its reader gives up by a panic with a fault.Fault.
package chunks

import (
	"strings"

	"mosaic/api"
	"mosaic/fault"
	"mosaic/numbers"
	"mosaic/sums"
)

const signature = "\x89PNG\r\n\x1a\n"

const (
	countSize = 4
	nameSize  = 4
	crcSize   = 4
	mostBytes = 2147483647
)

// Chunk is what a chunk tells.
type Chunk struct{ Name, Bytes string }

// Each hands on the chunks of the file b, in their order, up to one that is none.
func Each(b string, do func(c Chunk)) {
	rest, begins := strings.CutPrefix(b, signature)
	if !begins {
		panic(fault.Fault(api.ErrSignature))
	}
	for len(rest) > 0 {
		c := first(rest)
		do(c)
		rest = rest[countSize+nameSize+len(c.Bytes)+crcSize:]
	}
}

// first is the chunk with which b begins.
func first(b string) Chunk {
	room := len(b) - countSize - nameSize - crcSize
	if room < 0 {
		panic(fault.Fault(api.ErrChunk))
	}
	count := numbers.FromFour(b)
	if count > mostBytes || count > room {
		panic(fault.Fault(api.ErrChunk))
	}
	checked, rest := b[countSize:countSize+nameSize+count], b[countSize+nameSize+count:]
	c := Chunk{Name: checked[:nameSize], Bytes: checked[nameSize:]}
	if !allLetters(c.Name) || numbers.FromFour(rest) != sums.Crc(checked) {
		panic(fault.Fault(api.ErrChunk))
	}
	return c
}

func allLetters(name string) bool {
	for i := range len(name) {
		small := 'a' <= name[i] && name[i] <= 'z'
		if !small && !capital(name[i]) {
			return false
		}
	}
	return true
}

func capital(letter byte) bool { return 'A' <= letter && letter <= 'Z' }

// Needed tells whether a reader that does not know the chunk may not leave it out.
func (c Chunk) Needed() bool { return capital(c.Name[0]) }

// File is the file of the chunks that list puts, one behind the other.
func File(list func(put func(c Chunk))) string {
	var file strings.Builder
	file.WriteString(signature)
	list(func(c Chunk) {
		file.WriteString(numbers.ToFour(len(c.Bytes)))
		file.WriteString(c.Name)
		file.WriteString(c.Bytes)
		file.WriteString(numbers.ToFour(sums.Crc(c.Name + c.Bytes)))
	})
	return file.String()
}
