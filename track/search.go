package track

import (
	"cmp"
	"slices"
)

// cost is what a way takes, without its first rail: length first, then moves. The length is -1 if there is no way.
type cost struct {
	length int
	moves  int
}

func (c cost) compare(d cost) int {
	return cmp.Or(cmp.Compare(c.length, d.length), cmp.Compare(c.moves, d.moves))
}

// visit is a move of which it is known that the target can be reached at a cost.
type visit struct {
	cost
	move int
}

// costs returns, for each move, the least cost from it to a move, over moves that are not closed.
func (n *network) costs(to int, closed []bool) []cost {
	costs := make([]cost, len(n.nexts))
	for i := range costs {
		costs[i].length = -1
	}
	if closed[to] {
		return costs
	}
	costs[to] = cost{}
	var open queue[visit] = &pile[visit]{items: []visit{{move: to}}, compare: func(a, b visit) int { return a.compare(b.cost) }}
	for {
		v, ok := open.take()
		if !ok {
			return costs
		}
		if v.cost != costs[v.move] {
			continue
		}
		c := cost{length: v.length + n.lengths[v.move/2], moves: v.moves + 1}
		for _, before := range n.befores[v.move] {
			if !closed[before] && (costs[before].length < 0 || c.compare(costs[before]) < 0) {
				costs[before] = c
				open.put(visit{cost: c, move: before})
			}
		}
	}
}

// descend returns the first way, move by move, of those whose cost is the least; from a move that reaches the target.
func (n *network) descend(from, to int, costs []cost) []int {
	way := []int{from}
	for m := from; m != to; {
		i := slices.IndexFunc(n.nexts[m], func(next int) bool {
			return costs[next].length >= 0 && costs[next].length+n.lengths[next/2] == costs[m].length && costs[next].moves+1 == costs[m].moves
		})
		m = n.nexts[m][i]
		way = append(way, m)
	}
	return way
}

// detour stands for all ways without repeated moves that begin with the first moves of another way, and then turn to a move. At first its cost is only a bound, that of the best way which may repeat moves; as soon as it is found, its way is the best one.
type detour struct {
	cost
	base  []int // its first moves are those of base, up to keep
	keep  int
	turn  int
	found []int
}

// compare puts bounds before ways of the same cost, since they may stand for a way that comes before.
func (d detour) compare(e detour) int {
	if c := d.cost.compare(e.cost); c != 0 {
		return c
	}
	return slices.Compare(d.found, e.found)
}

// ways returns the first ways of all ways between two moves.
func (n *network) ways(from, to, most int) [][]int {
	free := n.costs(to, make([]bool, len(n.nexts)))
	var ways [][]int
	var open queue[detour] = &pile[detour]{compare: detour.compare}
	if free[from].length >= 0 {
		open.put(detour{cost: free[from], turn: from})
	}
search:
	for {
		d, ok := open.take()
		switch {
		case !ok:
			break search
		case d.found == nil:
			if n.resolve(&d, to, free) {
				open.put(d)
			}
		default:
			ways = append(ways, d.found)
			if len(ways) == most {
				break search
			}
			for _, next := range n.branches(d, free) {
				open.put(next)
			}
		}
	}
	return ways
}

// resolve finds the best way that a detour stands for, if there is one.
func (n *network) resolve(d *detour, to int, free []cost) bool {
	closed := make([]bool, len(n.nexts))
	for _, m := range d.base[:d.keep] {
		closed[m] = true
	}
	rest := n.descend(d.turn, to, free)
	if slices.ContainsFunc(rest, func(m int) bool { return closed[m] }) {
		costs := n.costs(to, closed)
		if costs[d.turn].length < 0 {
			return false
		}
		d.cost = n.spent(d.base[:d.keep], d.turn, costs[d.turn])
		rest = n.descend(d.turn, to, costs)
	}
	d.found = slices.Concat(d.base[:d.keep], rest)
	return true
}

// spent returns the cost of a way that begins with some moves, then turns to a move from which the target costs the rest.
func (n *network) spent(first []int, turn int, rest cost) cost {
	if len(first) == 0 {
		return rest
	}
	length := n.wayLength(first[1:]) + n.lengths[turn/2] + rest.length
	return cost{length: length, moves: len(first) + rest.moves}
}

// branches returns the detours that stand, together, for all ways that the found one stands for, but for this one itself.
func (n *network) branches(d detour, free []cost) []detour {
	var l []detour
	for i := d.keep; i+1 < len(d.found); i++ {
		for _, turn := range n.nexts[d.found[i]] {
			if turn == d.found[i+1] || free[turn].length < 0 || slices.Contains(d.found[:i+1], turn) {
				continue
			}
			l = append(l, detour{cost: n.spent(d.found[:i+1], turn, free[turn]), base: d.found, keep: i + 1, turn: turn})
		}
	}
	return l
}
