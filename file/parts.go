package file

import (
	"strings"

	"mosaic/api"
	"mosaic/chunks"
	"mosaic/fault"
)

// The names of the chunks that a picture is made of.
const (
	headName    = "IHDR"
	paletteName = "PLTE"
	dataName    = "IDAT"
	endName     = "IEND"
)

// parts are the bytes of those chunks.
type parts struct {
	head       string
	hasPalette bool
	palette    string
	wrapped    string
}

// readParts reads all chunks ahead of looking at their order, as one that is none is the first error.
func readParts(b string) parts {
	var list []chunks.Chunk
	chunks.Each(b, func(c chunks.Chunk) { list = append(list, c) })
	return inOrder(list)
}

// inOrder takes the parts out of chunks, which must follow one another as they may.
func inOrder(list []chunks.Chunk) parts {
	last := len(list) - 1
	if last < 1 || list[0].Name != headName || list[last] != (chunks.Chunk{Name: endName}) {
		panic(fault.Fault(api.ErrOrder))
	}
	p := parts{head: list[0].Bytes}
	var data []string
	for i, c := range list[1:last] {
		ahead := list[i].Name
		switch {
		case c.Name == dataName && (len(data) == 0 || ahead == dataName):
			data = append(data, c.Bytes)
		case c.Name == paletteName && len(data) == 0 && !p.hasPalette:
			p.palette, p.hasPalette = c.Bytes, true
		case c.Needed():
			panic(fault.Fault(api.ErrOrder))
		}
	}
	if len(data) == 0 {
		panic(fault.Fault(api.ErrOrder))
	}
	p.wrapped = strings.Join(data, "")
	return p
}
