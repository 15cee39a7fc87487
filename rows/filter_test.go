package rows

import (
	"testing"

	"mosaic/api"
	"mosaic/fault"
)

// TestNearest: all bytes, held against a + b - c itself.
func TestNearest(t *testing.T) {
	for a := range 256 {
		for b := range 256 {
			for c := range 256 {
				want, near := 0, 1000
				for _, x := range [3]int{a, b, c} {
					if far := max(x-(a+b-c), a+b-c-x); far < near {
						want, near = x, far
					}
				}
				if got := nearest(a, b, c); got != want {
					t.Fatalf("nearest(%d, %d, %d) = %d, want %d", a, b, c, got, want)
				}
			}
		}
	}
}

func TestTakers(t *testing.T) {
	for filter, want := range []int{0, 200, 101, 150, 200} {
		if got := takerOf(byte(filter))(200, 101, 100); got != want {
			t.Errorf("filter %d takes away %d, want %d", filter, got, want)
		}
	}
}

func TestNoFilter(t *testing.T) {
	for filter := 5; filter < 256; filter++ {
		func() {
			defer func() {
				if caught := recover(); caught != fault.Fault(api.ErrFilter) {
					t.Errorf("filter %d: %v", filter, caught)
				}
			}()
			takerOf(byte(filter))
		}()
	}
}
