// Package shape knows the lines of rails: the spots on them, and the integer parts of their distances.
package shape

import "tramline/api"

// MostDistance is the greatest distance of two neighbors on a line.
const MostDistance = 1000000

// Line returns the line of a rail of a plan in which the rail and its nodes exist.
func Line(p api.Plan, rail int) []api.Spot {
	r := p.Rails[rail]
	line := make([]api.Spot, 0, len(r.Shape)+2)
	line = append(line, p.Nodes[r.From].Spot)
	line = append(line, r.Shape...)
	return append(line, p.Nodes[r.To].Spot)
}

// Distance returns the integer part of the distance of two spots of a plan, and whether they may be neighbors on a line.
func Distance(a, b api.Spot) (int, bool) {
	dx, dy := b.X-a.X, b.Y-a.Y
	square := dx*dx + dy*dy
	if square == 0 || square >= (MostDistance+1)*(MostDistance+1) {
		return 0, false
	}
	return root(square), true
}

// Length returns the length of a line, and whether the distances of its neighbors are in their range.
func Length(line []api.Spot) (int, bool) {
	sum := 0
	for i := 1; i < len(line); i++ {
		d, ok := Distance(line[i-1], line[i])
		if !ok {
			return 0, false
		}
		sum += d
	}
	return sum, true
}

// root returns the integer part of the square root, bit by bit, for squares below 2^40.
func root(square int) int {
	r := 0
	for bit := 1 << 19; bit > 0; bit >>= 1 {
		if x := r + bit; x*x <= square {
			r = x
		}
	}
	return r
}
