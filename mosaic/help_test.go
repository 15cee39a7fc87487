package mosaic_test

import (
	"encoding/hex"
	"strings"
	"testing"
)

// unhex makes bytes out of figures to the base 16; blanks count for nothing.
func unhex(t *testing.T, s string) string {
	t.Helper()
	b, err := hex.DecodeString(strings.ReplaceAll(s, " ", ""))
	if err != nil {
		t.Fatal(err)
	}
	return string(b)
}

// packer writes packed bytes bit by bit, so that a test can say wrong ones, too. It shares nothing with the program.
type packer struct {
	bytes []byte
	bits  int
}

func (p *packer) String() string { return string(p.bytes) }

func (p *packer) bit(b int) {
	if p.bits%8 == 0 {
		p.bytes = append(p.bytes, 0)
	}
	p.bytes[p.bits/8] |= byte(b << (p.bits % 8))
	p.bits++
}

// number writes a number, the lowest bit first.
func (p *packer) number(n, bits int) *packer {
	for i := range bits {
		p.bit(n >> i & 1)
	}
	return p
}

// code writes a code, the highest bit first.
func (p *packer) code(c, bits int) *packer {
	for i := bits - 1; i >= 0; i-- {
		p.bit(c >> i & 1)
	}
	return p
}

// head writes how a block begins.
func (p *packer) head(last bool, kind int) *packer {
	if last {
		p.bit(1)
	} else {
		p.bit(0)
	}
	return p.number(kind, 2)
}

func (p *packer) align() *packer {
	for p.bits%8 != 0 {
		p.bit(0)
	}
	return p
}

// stored writes a whole block of kind 0.
func (p *packer) stored(last bool, b string) *packer {
	p.head(last, 0).align().number(len(b), 16).number(^len(b), 16)
	for i := range len(b) {
		p.number(int(b[i]), 8)
	}
	return p
}

// fixed writes symbols with the fixed codes.
func (p *packer) fixed(symbols ...int) *packer {
	for _, s := range symbols {
		switch {
		case s < 144:
			p.code(0x30+s, 8)
		case s < 256:
			p.code(0x190+s-144, 9)
		case s < 280:
			p.code(s-256, 7)
		default:
			p.code(0xc0+s-280, 8)
		}
	}
	return p
}

// item is one number of the list of lengths of a block of kind 2, with its extra bits.
type item struct{ number, extra, bits int }

func again(times int) item       { return item{16, times - 3, 2} }
func fewNoughts(times int) item  { return item{17, times - 3, 3} }
func manyNoughts(times int) item { return item{18, times - 11, 7} }

// singly tells lengths one by one.
func singly(lengths ...int) []item {
	var items []item
	for _, n := range lengths {
		items = append(items, item{number: n})
	}
	return items
}

// lengthsAt is a list of so many lengths, those of pairs (number and length) given, the others 0.
func lengthsAt(count int, pairs ...int) []int {
	lengths := make([]int, count)
	for i := 0; i < len(pairs); i += 2 {
		lengths[pairs[i]] = pairs[i+1]
	}
	return lengths
}

// all19 are full lengths with which each of the 19 numbers has a code.
var all19 = [19]int{4, 4, 4, 4, 4, 4, 4, 4, 4, 4, 4, 4, 4, 5, 5, 5, 5, 5, 5}

var order19 = [19]int{16, 17, 18, 0, 8, 7, 9, 6, 10, 5, 11, 4, 12, 3, 13, 2, 14, 1, 15}

// lengthHead writes the three counts of a block of kind 2 and the lengths of the 19 codes.
func (p *packer) lengthHead(h, d int, lengths19 [19]int) *packer {
	p.number(h, 5).number(d, 5).number(15, 4)
	for _, n := range order19 {
		p.number(lengths19[n], 3)
	}
	return p
}

// items writes the list of lengths, with the codes of all19.
func (p *packer) items(items ...item) *packer {
	for _, x := range items {
		if x.number < 13 {
			p.code(x.number, 4)
		} else {
			p.code(26+x.number-13, 5)
		}
		p.number(x.extra, x.bits)
	}
	return p
}

// dynamic begins a last block of kind 2 with these lengths, told one by one.
func (p *packer) dynamic(symbols, distances []int) *packer {
	p.head(true, 2).lengthHead(len(symbols)-257, len(distances)-1, all19)
	return p.items(singly(symbols...)...).items(singly(distances...)...)
}

// bitsAhead reads packed bytes bit by bit, so that a test can see their blocks. It shares nothing with the program.
type bitsAhead struct {
	t      *testing.T
	packed string
	place  int
}

func (r *bitsAhead) number(bits int) int {
	r.t.Helper()
	n := 0
	for i := range bits {
		if r.place/8 >= len(r.packed) {
			r.t.Fatal("the packed bytes end within a block")
		}
		n |= int(r.packed[r.place/8]) >> (r.place % 8) & 1 << i
		r.place++
	}
	return n
}

func (r *bitsAhead) code(bits int) int {
	n := 0
	for range bits {
		n = n<<1 | r.number(1)
	}
	return n
}

// fixedSymbol reads a symbol with the fixed codes.
func (r *bitsAhead) fixedSymbol() int {
	c := r.code(7)
	if c < 0x18 {
		return 256 + c
	}
	c = c<<1 | r.number(1)
	switch {
	case c < 0xc0:
		return c - 0x30
	case c < 0xc8:
		return 280 + c - 0xc0
	}
	return 144 + (c<<1 | r.number(1)) - 0x190
}

// fixedBlock reads a block of kind 1, behind its head.
func (r *bitsAhead) fixedBlock() {
	for {
		symbol := r.fixedSymbol()
		switch {
		case symbol == 256:
			return
		case symbol > 256:
			r.number(lengthExtras[symbol-257])
			r.number(distanceExtras[r.code(5)])
		}
	}
}

// kindsOf are the kinds of the blocks, up to the first one of kind 2 or 3.
func kindsOf(t *testing.T, packed string) []int {
	t.Helper()
	r := &bitsAhead{t: t, packed: packed}
	var kinds []int
	for last := false; !last; {
		last = r.number(1) == 1
		kind := r.number(2)
		kinds = append(kinds, kind)
		switch kind {
		case 0:
			r.place = (r.place + 7) / 8 * 8
			count := r.number(16)
			r.number(16)
			r.place += 8 * count
		case 1:
			r.fixedBlock()
		default:
			return kinds
		}
	}
	return kinds
}
