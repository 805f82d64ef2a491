package track

import (
	"tramline/api"
	"tramline/shape"
)

// surveyWay returns the network of a plan with the numbers of the moves of a way, and whether both are right.
func surveyWay(p api.Plan, moves []api.Move) (*network, []int, bool) {
	n, ok := survey(p)
	if !ok {
		return nil, nil, false
	}
	way, ok := n.way(moves)
	return n, way, ok
}

// way returns the numbers of the moves of a way, and whether it is one.
func (n *network) way(moves []api.Move) ([]int, bool) {
	if len(moves) < 1 || len(moves) > api.MaxWay {
		return nil, false
	}
	way := make([]int, 0, len(moves))
	for i, m := range moves {
		if !n.hasRail(m.Rail) {
			return nil, false
		}
		if i > 0 && !n.follows(way[i-1], number(m)) {
			return nil, false
		}
		way = append(way, number(m))
	}
	return way, true
}

func moves(numbers []int) []api.Move {
	l := make([]api.Move, 0, len(numbers))
	for _, m := range numbers {
		l = append(l, move(m))
	}
	return l
}

func (n *network) wayLength(way []int) int {
	sum := 0
	for _, m := range way {
		sum += n.lengths[m/2]
	}
	return sum
}

// covers returns the parts of rails that belong to a way from a number of millimeters to another one.
func (n *network) covers(way []int, from, to int) []api.Cover {
	var l []api.Cover
	begin := 0
	for _, m := range way {
		length := n.lengths[m/2]
		x, y := max(from-begin, 0), min(to-begin, length)
		begin += length
		if x >= y {
			continue
		}
		if m%2 == 1 {
			x, y = length-y, length-x
		}
		l = append(l, api.Cover{Rail: m / 2, From: x, To: y})
	}
	return l
}

// consistent reports whether numbers are the distances to a move, by what each of them has to be beside its neighbors.
func (n *network) consistent(to int, distances []int) bool {
	if len(distances) != len(n.nexts) || distances[to] != 0 {
		return false
	}
	for m, d := range distances {
		// No way without repeated moves is longer; so sums do not overflow.
		if d < -1 || d > 2*len(n.Rails)*(mostShape+1)*shape.MostDistance {
			return false
		}
		if m != to && d != n.leastBeyond(m, distances) {
			return false
		}
	}
	return true
}

// leastBeyond returns the least distance from a move by those that follow it, or -1.
func (n *network) leastBeyond(m int, distances []int) int {
	least := -1
	for _, next := range n.nexts[m] {
		if distances[next] == -1 {
			continue
		}
		if d := n.lengths[next/2] + distances[next]; least < 0 || d < least {
			least = d
		}
	}
	return least
}

// endless finds the endless moves: those that are left when moves that nothing follows are taken away again and again.
func (n *network) endless() []bool {
	endless := make([]bool, len(n.nexts))
	left := make([]int, len(n.nexts))
	var ends []int
	for m, l := range n.nexts {
		endless[m], left[m] = true, len(l)
		if len(l) == 0 {
			ends = append(ends, m)
		}
	}
	for len(ends) > 0 {
		m := ends[len(ends)-1]
		ends = ends[:len(ends)-1]
		endless[m] = false
		for _, before := range n.befores[m] {
			if left[before]--; left[before] == 0 {
				ends = append(ends, before)
			}
		}
	}
	return endless
}

// reaches reports whether there is a way from a move to another one.
func (n *network) reaches(from, to int) bool {
	seen := make([]bool, len(n.nexts))
	seen[from] = true
	open := []int{from}
	for len(open) > 0 && !seen[to] {
		m := open[len(open)-1]
		open = open[:len(open)-1]
		for _, next := range n.nexts[m] {
			if !seen[next] {
				seen[next] = true
				open = append(open, next)
			}
		}
	}
	return seen[to]
}
