package pack

import "mosaic/codes"

// tries is how many earlier places are looked at for one copy: more would find few longer ones, and cost much time where few bytes take turns.
const tries = 48

// goodEnough is a length with which no longer copy is looked for one byte on.
const goodEnough = 64

// step is what comes next of the text: a byte (of distance 0), or a copy.
type step struct {
	length, distance int
}

// finder finds strings of the text that came before.
type finder struct {
	text    string
	latest  map[uint32]int // by the first three bytes
	earlier []int          // by a place modulo Farthest: the next earlier one with the same first bytes, or -1
	period  int
}

func newFinder(text string) *finder {
	return &finder{
		text:    text,
		latest:  make(map[uint32]int),
		earlier: make([]int, min(len(text), codes.Farthest)),
		// So long a beginning has the period of the whole text, if that has one which a copy can go back.
		period: period(text[:min(len(text), 2*codes.Farthest)]),
	}
}

// period is the least distance at which all bytes of the text are as those behind them.
func period(text string) int {
	// borders holds, for each beginning of the text, how long a shorter beginning it also ends with.
	borders := make([]int, len(text)+1)
	border := 0
	for i := 1; i < len(text); i++ {
		for border > 0 && text[i] != text[border] {
			border = borders[border]
		}
		if text[i] == text[border] {
			border++
		}
		borders[i+1] = border
	}
	return len(text) - border
}

// firstBytes is the key of a place, which has at least three bytes.
func (f *finder) firstBytes(place int) uint32 {
	t := f.text[place : place+codes.ShortestCopy]
	return uint32(t[0])<<16 | uint32(t[1])<<8 | uint32(t[2])
}

// remember lets later places find this one, and the map forget the one that is now too far away.
func (f *finder) remember(place int) {
	if far := place - codes.Farthest; far >= 0 {
		if key := f.firstBytes(far); f.latest[key] == far {
			delete(f.latest, key)
		}
	}
	if len(f.text)-place < codes.ShortestCopy {
		return
	}
	key := f.firstBytes(place)
	before, ok := f.latest[key]
	if !ok {
		before = -1
	}
	f.earlier[place%codes.Farthest] = before
	f.latest[key] = place
}

// longest is the longest copy that it finds for a place, which goes no further than the end; else a byte.
func (f *finder) longest(place, end int) step {
	best := step{length: 1}
	most := min(end-place, codes.LongestCopy)
	if most < codes.ShortestCopy {
		return best
	}
	try := func(before int) {
		if length := f.alike(before, place, most); length >= codes.ShortestCopy && length > best.length {
			best = step{length, place - before}
		}
	}
	// A piece over and over is found at once, however many earlier places begin alike.
	if f.period <= min(place, codes.Farthest) {
		try(place - f.period)
	}
	before, ok := f.latest[f.firstBytes(place)]
	for left := tries; ok && left > 0 && best.length < most; left-- {
		try(before)
		before = f.earlier[before%codes.Farthest]
		ok = before >= max(place-codes.Farthest, 0)
	}
	return best
}

// alike is how many bytes, at most so many, are the same behind two places.
func (f *finder) alike(before, place, most int) int {
	length := 0
	for length < most && f.text[before+length] == f.text[place+length] {
		length++
	}
	return length
}

// steps takes a part of the text apart, and hands on its steps.
func (f *finder) steps(start, end int, do func(step)) {
	place := start
	here := f.longest(place, end)
	for place < end {
		f.remember(place)
		next := step{}
		if here.length < goodEnough {
			next = f.longest(place+1, end)
		}
		// One byte and then a longer copy are worth more than a copy at once.
		if next.length > here.length {
			here.length, here.distance = 1, 0
		}
		do(here)
		for i := 1; i < here.length; i++ {
			f.remember(place + i)
		}
		place += here.length
		if here.length > 1 {
			next = f.longest(place, end)
		}
		here = next
	}
}
