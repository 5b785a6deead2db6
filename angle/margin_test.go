package angle

import (
	"runtime"
	"sync"
	"testing"
)

// TestMargin shows for every angle of the first quarter that its sine is farther from an integer than the error of
// the computation, so that rounding it down is exact. It is what makes P1.1 hold for all angles.
func TestMargin(t *testing.T) {
	const margin uint64 = 1 << 30
	near := make([]int, runtime.GOMAXPROCS(0))
	var all sync.WaitGroup
	for worker := range near {
		all.Go(func() {
			for a := 1 + worker; a < right; a += len(near) {
				_, rest := hundredMillionths(fraction(a))
				if a != right/3 && (rest < margin || rest > whole-margin) {
					near[worker] = a
				}
			}
		})
	}
	all.Wait()
	for _, a := range near {
		if a != 0 {
			t.Errorf("the sine of %d is too near to an integer to be rounded", a)
		}
	}
}
