package track

import (
	"iter"

	"tramline/api"
)

// arrival is a car that comes to a node, at one of its ends.
type arrival struct {
	end    int
	normal int // the Normal of the node
}

func (a arrival) nowhere() []int { return nil }

func (a arrival) straight() []int { return []int{1 - a.end} }

func (a arrival) across() []int { return []int{(a.end + 2) % 4} }

func (a arrival) anyLeg() []int {
	if a.end == 0 {
		return []int{1, 2}
	}
	return []int{0}
}

func (a arrival) normalLeg() []int {
	if a.end == 0 {
		return []int{a.normal}
	}
	return []int{0}
}

func (a arrival) onlyNormalLeg() []int {
	if a.end == 0 {
		return []int{a.normal}
	}
	if a.end == a.normal {
		return []int{0}
	}
	return nil
}

// through returns the ends of a node by which a car can go on from one of them.
func through(node api.Node, end int) []int {
	rules := [...]func(arrival) []int{
		api.NodeEnd:    arrival.nowhere,
		api.NodePlain:  arrival.straight,
		api.NodeCross:  arrival.across,
		api.NodeSet:    arrival.anyLeg,
		api.NodeSpring: arrival.normalLeg,
		api.NodeLocked: arrival.onlyNormalLeg,
	}
	return rules[node.Kind](arrival{end: end, normal: node.Normal})
}

// endsOf returns how many ends meet at a node of a kind that exists.
func endsOf(kind api.NodeKind) int {
	ends := [...]int{
		api.NodeEnd:    1,
		api.NodePlain:  2,
		api.NodeCross:  4,
		api.NodeSet:    3,
		api.NodeSpring: 3,
		api.NodeLocked: 3,
	}
	return ends[kind]
}

// leaving yields the moves that follow a move, in the order in which the node gives their ends.
func (n *network) leaving(m int) iter.Seq[int] {
	return func(yield func(int) bool) {
		node := n.Nodes[n.nodeAt(m^1)]
		for _, slot := range through(node, n.slots[m^1]) {
			if !yield(endNumber(node.Ends[slot])) {
				return
			}
		}
	}
}
