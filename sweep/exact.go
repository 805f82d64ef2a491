package sweep

import (
	"cmp"
	"math/bits"
	"sort"

	"tramline/api"
)

// wide is a product of two words: the high word, then the low one.
type wide [2]uint64

func product(a, b uint64) wide {
	high, low := bits.Mul64(a, b)
	return wide{high, low}
}

func (w wide) compare(v wide) int {
	return cmp.Or(cmp.Compare(w[0], v[0]), cmp.Compare(w[1], v[1]))
}

// separation is the square of a distance, as a fraction.
type separation struct {
	over  wide
	under uint64
}

func (s separation) compare(distance int) int {
	return s.over.compare(product(uint64(distance*distance), s.under))
}

// floor returns the integer part of the distance, at most so much.
func (s separation) floor(most int) int {
	return sort.Search(most, func(d int) bool { return s.compare(d+1) < 0 })
}

// fromSpot returns the separation of two spots.
func fromSpot(a, b api.Spot) separation {
	dx, dy := b.X-a.X, b.Y-a.Y
	return separation{over: wide{0, uint64(dx*dx + dy*dy)}, under: 1}
}

// fromSegment returns the separation of a spot and a segment.
func fromSegment(s, from, to api.Spot) separation {
	ux, uy := to.X-from.X, to.Y-from.Y
	vx, vy := s.X-from.X, s.Y-from.Y
	square, along := ux*ux+uy*uy, ux*vx+uy*vy
	if along <= 0 {
		return fromSpot(s, from)
	}
	if along >= square {
		return fromSpot(s, to)
	}
	across := ux*vy - uy*vx
	if across < 0 {
		across = -across
	}
	return separation{over: product(uint64(across), uint64(across)), under: uint64(square)}
}

// side returns on which side of a line through two spots a third one lies: 1, 0 or -1.
func side(from, to, s api.Spot) int {
	return cmp.Compare((to.X-from.X)*(s.Y-from.Y), (to.Y-from.Y)*(s.X-from.X))
}

// cross reports whether two segments have a point in common that is an end of neither.
func cross(a, b, c, d api.Spot) bool {
	return side(a, b, c)*side(a, b, d) < 0 && side(c, d, a)*side(c, d, b) < 0
}
