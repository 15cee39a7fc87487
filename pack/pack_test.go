package pack

import (
	"math/rand"
	"slices"
	"strings"
	"testing"

	"mosaic/api"
	"mosaic/codes"
	"mosaic/unpack"
)

func TestPeriod(t *testing.T) {
	r := rand.New(rand.NewSource(1))
	for range 5000 {
		piece := make([]byte, 1+r.Intn(12))
		for i := range piece {
			piece[i] = byte('a' + r.Intn(2))
		}
		text := strings.Repeat(string(piece), 4)[:1+r.Intn(len(piece)*4)]
		want := 1
		for text[want:] != text[:len(text)-want] {
			want++
		}
		if got := period(text); got != want {
			t.Fatalf("period(%s) = %d, want %d", text, got, want)
		}
	}
}

// toldLengths are the lengths that numbers and their extra bits tell.
func toldLengths(lengths []int) []int {
	var out []int
	eachLength(lengths, func(number, extra, bits int) {
		switch number {
		case 16:
			out = append(out, slices.Repeat(out[len(out)-1:], 3+extra)...)
		case 17:
			out = append(out, make([]int, 3+extra)...)
		case 18:
			out = append(out, make([]int, 11+extra)...)
		default:
			out = append(out, number)
		}
		if extra < 0 || extra >= 1<<bits || bits != []int{0, 2, 3, 7}[max(number-15, 0)] {
			out = nil
		}
	})
	return out
}

func TestEachLength(t *testing.T) {
	for length := range 2 {
		for run := range 320 {
			for _, around := range [][]int{nil, {5}, {0}, {1}} {
				lengths := slices.Concat(around, slices.Repeat([]int{length}, run), around)
				if told := toldLengths(lengths); !slices.Equal(told, lengths) {
					t.Errorf("%d times %d between %v: told as %v", run, length, around, told)
				}
			}
		}
	}
}

// TestEachPlan: a plan's end is believed when the shortest one is chosen; and each of them is right, even if seldom chosen.
func TestEachPlan(t *testing.T) {
	r := rand.New(rand.NewSource(2))
	for size := range 400 {
		noise := make([]byte, size)
		r.Read(noise)
		for _, text := range []string{string(noise), strings.Repeat("mosaic", size), strings.Repeat("\xff", size)} {
			for count := range 3 {
				wantPlan(t, text, count, r.Intn(8))
			}
		}
	}
}

// wantPlan writes a text with one of its plans, behind some blocks without a byte.
func wantPlan(t *testing.T, text string, count, ahead int) {
	t.Helper()
	w := &bitWriter{}
	for range ahead {
		fixedPlan(w, "", nil, tally{}, false).write()
	}
	plans := plansFor(w, text, splitter(text, api.Dynamic)(0, len(text)), true, api.Dynamic)
	if len(plans) != 3 {
		t.Fatalf("%d plans", len(plans))
	}
	plans[count].write()
	if w.place != plans[count].end || len(w.packed) != (w.place+7)/8 {
		t.Errorf("plan %d of %d bytes: ends at %d, not at %d", count, len(text), w.place, plans[count].end)
	}
	out, used := unpack.Bytes(string(w.packed), len(text))
	if out != text || used != len(w.packed) {
		t.Errorf("plan %d of %d bytes: %d come out, %d used of %d", count, len(text), len(out), used, len(w.packed))
	}
}

// TestStepsGiveTheText: steps are just the part, and no copy is shorter, longer or goes farther than may be.
func TestStepsGiveTheText(t *testing.T) {
	r := rand.New(rand.NewSource(3))
	for range 40 {
		var b []byte
		for len(b) < 100000 {
			piece := make([]byte, 1+r.Intn(2000))
			for i := range piece {
				piece[i] = byte(r.Intn(1 + r.Intn(256)))
			}
			b = append(b, piece...)
			at := r.Intn(len(b))
			b = append(b, b[at:min(at+r.Intn(4000), len(b))]...)
		}
		text := string(b)
		split := splitter(text, api.Fixed)
		for start := 0; start < len(text); start += partSize {
			place, end := start, min(start+partSize, len(text))
			for _, s := range split(start, end) {
				if s.distance == 0 && s.length != 1 || s.distance != 0 && !copyMayBe(text, place, s) {
					t.Fatalf("a step of length %d and distance %d at %d", s.length, s.distance, place)
				}
				place += s.length
			}
			if place != end {
				t.Fatalf("the steps from %d on end at %d, not at %d", start, place, end)
			}
		}
	}
}

func copyMayBe(text string, place int, s step) bool {
	return s.length >= codes.ShortestCopy && s.length <= codes.LongestCopy && s.distance <= min(place, codes.Farthest) &&
		text[place:place+s.length] == text[place-s.distance:place-s.distance+s.length]
}

// TestFarthestCopy: a string is found again at the farthest distance, and not behind it.
func TestFarthestCopy(t *testing.T) {
	for _, distance := range []int{codes.Farthest - 1, codes.Farthest, codes.Farthest + 1} {
		between := make([]byte, distance-3)
		for i := range between {
			between[i] = byte(i % 7)
		}
		// The byte ahead keeps the distance from being the text's period.
		text := "wxyz" + string(between) + "xyz"
		steps := splitter(text, api.Fixed)(0, len(text))
		want := step{3, distance}
		if distance > codes.Farthest {
			want = step{1, 0}
		}
		if last := steps[len(steps)-1]; last != want {
			t.Errorf("at distance %d the last step is %v", distance, last)
		}
	}
}
