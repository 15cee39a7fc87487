// Package pack: packed bytes, written.
package pack

import (
	"cmp"
	"slices"

	"mosaic/api"
	"mosaic/codes"
)

// partSize is how many bytes of the text a block has: as many as one of kind 0 can have, so that no more blocks are needed if all are of that kind.
const partSize = 65535

// HasLevel tells whether there is such a level.
func HasLevel(level int) bool { return level >= api.Stored && level <= api.Dynamic }

// plan is one way to write a block: the place of the bit behind it, and the writing.
type plan struct {
	end   int
	write func()
}

// Bytes packs a text with a level that there is.
func Bytes(text string, level int) string {
	w := &bitWriter{}
	split := splitter(text, level)
	for start, last := 0, false; !last; start += partSize {
		end := min(start+partSize, len(text))
		last = end == len(text)
		plans := plansFor(w, text[start:end], split(start, end), last, level)
		// None ends behind the one of kind 0: so the whole is never longer than with that kind alone.
		slices.MinFunc(plans, func(a, b plan) int { return cmp.Compare(a.end, b.end) }).write()
	}
	return string(w.packed)
}

// splitter takes parts of a text apart, which must come one behind the other. With Stored there is no need of it.
func splitter(text string, level int) func(start, end int) []step {
	if level == api.Stored {
		return func(int, int) []step { return nil }
	}
	f := newFinder(text)
	var steps []step
	return func(start, end int) []step {
		steps = steps[:0]
		f.steps(start, end, func(s step) { steps = append(steps, s) })
		return steps
	}
}

// plansFor are the ways in which a part may be written with a level.
func plansFor(w *bitWriter, part string, steps []step, last bool, level int) []plan {
	plans := []plan{storedPlan(w, part, last)}
	if level == api.Stored {
		return plans
	}
	t := tallyOf(part, steps)
	plans = append(plans, fixedPlan(w, part, steps, t, last))
	if level == api.Dynamic {
		plans = append(plans, dynamicPlan(w, part, steps, t, last))
	}
	return plans
}

func storedPlan(w *bitWriter, part string, last bool) plan {
	return plan{
		end: (w.place+3+7)/8*8 + 32 + 8*len(part),
		write: func() {
			writeHead(w, last, codes.StoredBlock)
			w.skipRestOfByte()
			w.number(len(part), 16)
			w.number(^len(part), 16)
			w.bytes(part)
		},
	}
}

func fixedPlan(w *bitWriter, part string, steps []step, t tally, last bool) plan {
	symbols, distances := codes.FixedSymbols(), codes.FixedDistances()
	return plan{
		end: w.place + 3 + t.bits(symbols, distances),
		write: func() {
			writeHead(w, last, codes.FixedBlock)
			eachSymbol(part, steps, writer(w, symbols, distances))
		},
	}
}

func dynamicPlan(w *bitWriter, part string, steps []step, t tally, last bool) plan {
	made := tablesFor(t)
	return plan{
		end: w.place + 3 + made.bits() + t.bits(made.symbols, made.distances),
		write: func() {
			writeHead(w, last, codes.DynamicBlock)
			made.write(w)
			eachSymbol(part, steps, writer(w, made.symbols, made.distances))
		},
	}
}

// writeHead writes how a block begins.
func writeHead(w *bitWriter, last bool, kind int) {
	lastBit := 0
	if last {
		lastBit = 1
	}
	w.number(lastBit, 1)
	w.number(kind, 2)
}
