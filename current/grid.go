package current

import (
	"iter"
	"slices"

	"tramline/api"
)

const (
	mostSiem  = 4
	mostLimit = 2000
	mostRank  = 100
	mostOff   = 6
)

func within(x, least, most int) bool { return x >= least && x <= most }

// gridRight reports whether a grid is as defined.
func gridRight(g api.Grid) bool {
	return within(g.Nodes, 1, api.GridNodes) && within(g.Least, 0, api.GridVolts) && wiresRight(g) && feedsRight(g)
}

func wiresRight(g api.Grid) bool {
	if len(g.Wires) > api.GridWires {
		return false
	}
	at := make([]int, g.Nodes)
	for _, w := range g.Wires {
		if !within(w.A, 0, g.Nodes-1) || !within(w.B, 0, g.Nodes-1) || w.A == w.B || !within(w.Siem, 1, mostSiem) {
			return false
		}
		at[w.A]++
		at[w.B]++
	}
	return slices.Max(at) <= api.GridAt
}

func feedsRight(g api.Grid) bool {
	if len(g.Feeds) > api.GridFeeds {
		return false
	}
	fed := make([]bool, g.Nodes)
	for _, f := range g.Feeds {
		if !within(f.At, 0, g.Nodes-1) || fed[f.At] {
			return false
		}
		if !within(f.Volts, 1, api.GridVolts) || !within(f.Siem, 1, mostSiem) || !within(f.Limit, 0, mostLimit) {
			return false
		}
		fed[f.At] = true
	}
	return true
}

// stateRight reports whether a state is as defined for a grid that is.
func stateRight(g api.Grid, s api.GridState) bool {
	if len(s.Feeds) != len(g.Feeds) || len(s.Wires) != len(g.Wires) {
		return false
	}
	for i, w := range g.Wires {
		if !w.Switch && !s.Wires[i] {
			return false
		}
	}
	return true
}

// loadsRight reports whether loads are as defined for a grid that is.
func loadsRight(g api.Grid, loads []api.GridLoad) bool {
	loaded := make([]bool, g.Nodes)
	for _, l := range loads {
		if !within(l.At, 0, g.Nodes-1) || loaded[l.At] {
			return false
		}
		if !within(l.Units, -api.GridCurrent, api.GridCurrent) || !within(l.Rank, 0, mostRank) {
			return false
		}
		loaded[l.At] = true
	}
	return true
}

// parts yields the nodes of each part in increasing order, the parts in the order of their least nodes.
func parts(g api.Grid, wires []bool) iter.Seq[[]int] {
	return func(yield func([]int) bool) {
		seen := make([]bool, g.Nodes)
		for first := range g.Nodes {
			if !seen[first] && !yield(gather(g, wires, first, seen)) {
				return
			}
		}
	}
}

// gather returns the part of a node, and marks its nodes as seen.
func gather(g api.Grid, wires []bool, first int, seen []bool) []int {
	seen[first] = true
	nodes := []int{first}
	for i := 0; i < len(nodes); i++ {
		for k, w := range g.Wires {
			if !wires[k] || w.A != nodes[i] && w.B != nodes[i] {
				continue
			}
			if other := w.A + w.B - nodes[i]; !seen[other] {
				seen[other] = true
				nodes = append(nodes, other)
			}
		}
	}
	slices.Sort(nodes)
	return nodes
}

// filter returns the elements of a list that are to be kept.
func filter[T any](l []T, keep func(T) bool) []T {
	var kept []T
	for _, x := range l {
		if keep(x) {
			kept = append(kept, x)
		}
	}
	return kept
}
