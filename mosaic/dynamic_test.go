package mosaic_test

import (
	"slices"
	"testing"

	"mosaic/api"
)

// twoSymbols: `a` has the code 0, the end the code 1.
var twoSymbols = lengthsAt(257, 'a', 1, 256, 1)

// threeSymbols: `a` has the code 0, the end 10, a copy of length 3 has 11.
var threeSymbols = lengthsAt(258, 'a', 1, 256, 2, 257, 2)

func TestP5Dynamic(t *testing.T) {
	p := new(packer).dynamic(twoSymbols, []int{0}).code(0, 1).code(0, 1).code(1, 1)
	wantInflate(t, "no distance", p.String(), 9, "aa", len(p.bytes))

	p = new(packer).dynamic(threeSymbols, []int{0, 1}).code(0, 1).code(0, 1).code(3, 2).code(0, 1).code(2, 2)
	wantInflate(t, "one distance alone", p.String(), 9, "aaaaa", len(p.bytes))

	p = new(packer).dynamic(lengthsAt(258, 'a', 2, 'b', 2, 256, 2, 257, 2), []int{2, 1, 2})
	p.code(0, 2).code(1, 2).code(3, 2).code(0, 1).code(3, 2).code(3, 2).code(2, 2)
	wantInflate(t, "codes by length, then by number", p.String(), 9, "ababaaba", len(p.bytes))
}

// TestP5LongCodes: lengths 1 to 15, and 15 once more; codes are ones with a nought behind them.
func TestP5LongCodes(t *testing.T) {
	symbols, distances := lengthsAt(286), make([]int, 30)
	for i := range 15 {
		symbols[16*i] = i + 1
		distances[i] = i + 1
	}
	symbols[256], distances[29] = 15, 15
	p := new(packer).dynamic(symbols, distances)
	var want []byte
	for i := range 15 {
		p.code(1<<(i+1)-2, i+1)
		want = append(want, byte(16*i))
	}
	p.code(1<<15-1, 15)
	wantInflate(t, "long codes", p.String(), 15, string(want), len(p.bytes))
}

// TestP5LengthLists: the same lengths, told in other ways; a repeat may go over from the symbols to the distances.
func TestP5LengthLists(t *testing.T) {
	begin := func(h, d int) *packer { return new(packer).head(true, 2).lengthHead(h, d, all19) }
	p := begin(0, 0).items(manyNoughts(97), item{number: 1}, manyNoughts(138), manyNoughts(20), item{number: 1}, item{})
	p.code(0, 1).code(1, 1)
	wantInflate(t, "many noughts", p.String(), 9, "a", len(p.bytes))

	// 257 to 260 and the distances 0 to 3 have the length 3, told as one run of 7 behind the first.
	p = begin(4, 7).items(manyNoughts(97), item{number: 2}, manyNoughts(138), manyNoughts(20), item{number: 2})
	p.items(item{number: 3}, again(4), again(6), item{number: 3})
	p.code(0, 2).code(7, 3).code(0, 3).code(1, 2)
	wantInflate(t, "a run from symbols to distances", p.String(), 9, "aaaaaaa", len(p.bytes))

	p = begin(0, 20).items(manyNoughts(97), item{number: 1}, manyNoughts(138), manyNoughts(20), item{number: 1})
	p.items(fewNoughts(3), fewNoughts(10), again(5), fewNoughts(3)).code(0, 1).code(1, 1)
	wantInflate(t, "few noughts, and noughts again", p.String(), 9, "a", len(p.bytes))

	p = begin(0, 10).items(manyNoughts(97), item{number: 1}, manyNoughts(138), manyNoughts(20), item{number: 1})
	p.items(manyNoughts(11)).code(0, 1).code(1, 1)
	wantInflate(t, "the fewest of many noughts", p.String(), 9, "a", len(p.bytes))
}

// TestP5FewLengthCodes: the lengths of the 19 codes that are left are 0.
func TestP5FewLengthCodes(t *testing.T) {
	// Of 16, 17, 18 and 0 only 18 and 0 have codes: all lengths are 0.
	p := new(packer).head(true, 2).number(0, 5).number(0, 5).number(0, 4)
	p.number(0, 3).number(0, 3).number(1, 3).number(1, 3)
	p.code(1, 1).number(127, 7).code(1, 1).number(109, 7)
	wantRefusal(t, "no length at all", p.number(0, 64).String(), 9, api.ErrDeflate)

	// 1 with the code 0 and 18 with the code 1.
	p = new(packer).head(true, 2).number(0, 5).number(0, 5).number(14, 4)
	p.number(0, 6).number(1, 3).number(0, 3*14).number(1, 3)
	p.code(1, 1).number(86, 7).code(0, 1).code(1, 1).number(127, 7).code(1, 1).number(9, 7).code(0, 1).code(0, 1)
	p.code(0, 1).code(1, 1)
	wantInflate(t, "18 of the 19", p.String(), 9, "a", len(p.bytes))
}

func TestP5Counts(t *testing.T) {
	for h := range 32 {
		for d := range 32 {
			symbols, distances := lengthsAt(257+h, 'a', 1, 256, 1), make([]int, d+1)
			p := new(packer).dynamic(symbols, distances).code(0, 1).code(1, 1)
			if h <= 29 && d <= 29 {
				wantInflate(t, "counts", p.String(), 9, "a", len(p.bytes))
			} else {
				wantRefusal(t, "a count above 29", p.String(), 9, api.ErrDeflate)
			}
		}
	}
}

func TestP5LengthCodesNotFull(t *testing.T) {
	for _, lengths19 := range [][19]int{
		{},
		{0: 1},
		{0: 1, 1: 2},
		{0: 1, 1: 1, 18: 7},
		{0: 1, 1: 1, 2: 1},
		{4, 4, 4, 4, 4, 4, 4, 4, 4, 4, 4, 4, 4, 5, 5, 5, 5, 5, 6},
		{4, 4, 4, 4, 4, 4, 4, 4, 4, 4, 4, 4, 4, 4, 5, 5, 5, 5, 5},
		{7, 7, 7, 7, 7, 7, 7, 7, 7, 7, 7, 7, 7, 7, 7, 7, 7, 7, 7},
	} {
		// The list that follows is right with all19, and noughts that are enough for other codes.
		p := new(packer).head(true, 2).lengthHead(0, 0, lengths19)
		p.items(singly(twoSymbols...)...).items(item{}).code(1, 1).number(0, 4000)
		wantRefusal(t, "lengths of the 19 that are not full", p.String(), 1<<20, api.ErrDeflate)
		wantRefusal(t, "lengths of the 19 that are not full", p.String(), 0, api.ErrDeflate)
	}
}

func TestP5LengthListWrong(t *testing.T) {
	begin := func(d int) *packer { return new(packer).head(true, 2).lengthHead(0, d, all19) }
	p := begin(0).items(again(3)).items(singly(twoSymbols[3:]...)...).items(item{}).code(0, 1).code(1, 1)
	wantRefusal(t, "a 16 with no length ahead", p.String(), 9, api.ErrDeflate)

	for _, last := range []item{again(4), fewNoughts(4), manyNoughts(12)} {
		room := map[int]int{16: 3, 17: 3, 18: 11}[last.number]
		for _, rest := range []int{room, room + 1} {
			p := begin(rest - 1).items(singly(slices.Concat(twoSymbols[:256], []int{1})...)...)
			if last.number == 16 {
				// The length ahead must be 0 for distances that may be.
				p = begin(rest).items(singly(twoSymbols...)...).items(item{})
			}
			p.items(last).code(0, 1).code(1, 1)
			if rest == room {
				wantRefusal(t, "more lengths than there are", p.String(), 9, api.ErrDeflate)
			} else {
				wantInflate(t, "just as many lengths as there are", p.String(), 9, "a", len(p.bytes))
			}
		}
	}
}

func TestP5SymbolLengths(t *testing.T) {
	for name, symbols := range map[string][]int{
		"no length for 256":         lengthsAt(257, 'a', 1, 'b', 1),
		"no length at all":          lengthsAt(257),
		"256 alone":                 lengthsAt(257, 256, 1),
		"256 alone, of two":         lengthsAt(257, 256, 2),
		"too few":                   lengthsAt(257, 'a', 1, 256, 2),
		"too few by the least":      lengthsAt(258, 0, 1, 1, 2, 2, 3, 3, 4, 4, 5, 5, 6, 6, 7, 7, 8, 8, 9, 9, 10, 10, 11, 11, 12, 12, 13, 13, 14, 256, 15),
		"too many":                  lengthsAt(257, 'a', 1, 'b', 1, 256, 1),
		"too many by the least":     lengthsAt(257, 'a', 1, 'b', 15, 256, 1),
		"full ahead of 256 already": lengthsAt(257, 'a', 1, 'b', 1, 256, 15),
	} {
		for _, behind := range []int{0, 1<<15 - 1} {
			for _, distances := range [][]int{{0}, {1, 1}} {
				p := new(packer).dynamic(symbols, distances).number(behind, 15).number(0, 64)
				wantRefusal(t, name, p.String(), 1<<20, api.ErrDeflate)
				// Told ahead of the first symbol, which would go beyond this limit.
				wantRefusal(t, name, p.String(), 0, api.ErrDeflate)
			}
		}
	}
}

func TestP5DistanceLengths(t *testing.T) {
	for _, c := range []struct {
		name      string
		distances []int
		right     bool
	}{
		{"all 0", []int{0}, true},
		{"thirty times 0", make([]int, 30), true},
		{"one 1", []int{1}, true},
		{"one 1, the last", lengthsAt(30, 29, 1), true},
		{"two of 1", []int{1, 1}, true},
		{"full", []int{3, 1, 3, 2}, true},
		{"one 2", []int{2}, false},
		{"one 15", []int{0, 15}, false},
		{"1 and 2", []int{1, 2}, false},
		{"two of 2", []int{2, 2}, false},
		{"three of 1", []int{1, 1, 1}, false},
		{"full and one more", []int{1, 1, 15}, false},
		{"all but one", []int{1, 2, 3}, false},
		{"thirty of 5", slices.Repeat([]int{5}, 30), false},
	} {
		// No copy follows: the lengths alone are looked at.
		p := new(packer).dynamic(twoSymbols, c.distances).code(0, 1).code(1, 1)
		if c.right {
			wantInflate(t, c.name, p.String(), 9, "a", len(p.bytes))
		} else {
			wantRefusal(t, c.name, p.String(), 9, api.ErrDeflate)
			wantRefusal(t, c.name, p.String(), 0, api.ErrDeflate)
		}
	}
}

func TestP5BitsThatBeginNoCode(t *testing.T) {
	for _, limit := range []int{1, 9} {
		p := new(packer).dynamic(threeSymbols, []int{1}).code(0, 1).code(3, 2).code(1, 1).number(0, 40)
		wantRefusal(t, "the other bit of one distance alone", p.String(), limit, api.ErrDeflate)
		p = new(packer).dynamic(threeSymbols, []int{0}).code(0, 1).code(3, 2).number(0, 40)
		wantRefusal(t, "a copy without distances", p.String(), limit, api.ErrDeflate)
	}
}
