package track

import (
	"cmp"
	"slices"
	"testing"
)

// TestQueue is for P1.4 and P1.5: the least item always comes first.
func TestQueue(t *testing.T) {
	seed := uint32(1)
	below := func(n int) int {
		seed = seed*1664525 + 1013904223
		return int(seed>>8) % n
	}
	var q queue[int] = &pile[int]{compare: cmp.Compare[int]}
	var left []int
	for range 5000 {
		if below(100) < 52 {
			x := below(100)
			q.put(x)
			left = append(left, x)
			continue
		}
		x, ok := q.take()
		if ok != (len(left) > 0) || ok && x != slices.Min(left) {
			t.Fatal(x, ok, left)
		}
		if ok {
			left = slices.Delete(left, slices.Index(left, x), slices.Index(left, x)+1)
		}
	}
}
