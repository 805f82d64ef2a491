package track

import (
	"slices"

	"tramline/api"
	"tramline/shape"
)

const (
	spotRange = 10000000
	mostShape = 30
	mostLimit = 50000
	mostSlope = 120
)

// network is a valid plan with what follows from it. A move is named by its number here, which is also that of the end it leaves from: 2 Rail, plus 1 with Back (plus 1 with Last). It arrives at the other end of its rail, number ^ 1.
type network struct {
	api.Plan
	lengths []int
	slots   []int   // for each end, its index in the Ends of its node
	nexts   [][]int // for each move, those that follow it, in increasing order
	befores [][]int // for each move, those that it follows
}

// survey returns the network of a plan, and whether the plan is valid.
func survey(p api.Plan) (*network, bool) {
	n := &network{Plan: p}
	if !n.sizesRight() || !n.nodesRight() || !n.railsRight() || !n.endsRight() {
		return nil, false
	}
	n.link()
	return n, true
}

func (n *network) sizesRight() bool {
	nodes, rails := len(n.Nodes), len(n.Rails)
	return nodes >= 1 && nodes <= api.MaxTrackNodes && rails >= 1 && rails <= api.MaxTrackRails
}

func (n *network) nodesRight() bool {
	for _, node := range n.Nodes {
		if !spotRight(node.Spot) || !kindRight(node) {
			return false
		}
	}
	return true
}

func spotRight(s api.Spot) bool {
	return s.X >= -spotRange && s.X <= spotRange && s.Y >= -spotRange && s.Y <= spotRange
}

func kindRight(node api.Node) bool {
	if node.Kind < api.NodeEnd || node.Kind > api.NodeLocked || len(node.Ends) != endsOf(node.Kind) {
		return false
	}
	if node.Kind == api.NodeSpring || node.Kind == api.NodeLocked {
		return node.Normal == 1 || node.Normal == 2
	}
	return node.Normal == 0
}

// railsRight checks each rail by itself, and measures it.
func (n *network) railsRight() bool {
	n.lengths = make([]int, len(n.Rails))
	for i, rail := range n.Rails {
		if !n.railRight(rail) {
			return false
		}
		length, ok := shape.Length(shape.Line(n.Plan, i))
		if !ok {
			return false
		}
		n.lengths[i] = length
	}
	return true
}

func (n *network) railRight(rail api.Rail) bool {
	if rail.From < 0 || rail.From >= len(n.Nodes) || rail.To < 0 || rail.To >= len(n.Nodes) {
		return false
	}
	if len(rail.Shape) > mostShape || rail.Limit < 1 || rail.Limit > mostLimit {
		return false
	}
	if rail.Slope < -mostSlope || rail.Slope > mostSlope {
		return false
	}
	for _, s := range rail.Shape {
		if !spotRight(s) {
			return false
		}
	}
	return true
}

// endsRight checks that each end of a rail is at its node, once.
func (n *network) endsRight() bool {
	n.slots = make([]int, 2*len(n.Rails))
	for i := range n.slots {
		n.slots[i] = -1
	}
	found := 0
	for at, node := range n.Nodes {
		for slot, end := range node.Ends {
			if end.Rail < 0 || end.Rail >= len(n.Rails) {
				return false
			}
			e := endNumber(end)
			if n.nodeAt(e) != at || n.slots[e] >= 0 {
				return false
			}
			n.slots[e] = slot
			found++
		}
	}
	return found == len(n.slots)
}

func endNumber(end api.RailEnd) int {
	if end.Last {
		return 2*end.Rail + 1
	}
	return 2 * end.Rail
}

// nodeAt returns the node at which an end is.
func (n *network) nodeAt(end int) int {
	if end%2 == 1 {
		return n.Rails[end/2].To
	}
	return n.Rails[end/2].From
}

// link finds out which moves follow each move.
func (n *network) link() {
	n.nexts = make([][]int, 2*len(n.Rails))
	n.befores = make([][]int, 2*len(n.Rails))
	for m := range n.nexts {
		for next := range n.leaving(m) {
			n.nexts[m] = append(n.nexts[m], next)
			n.befores[next] = append(n.befores[next], m)
		}
		slices.Sort(n.nexts[m])
	}
}

func number(m api.Move) int {
	if m.Back {
		return 2*m.Rail + 1
	}
	return 2 * m.Rail
}

func move(number int) api.Move {
	return api.Move{Rail: number / 2, Back: number%2 == 1}
}

func (n *network) hasRail(rail int) bool { return rail >= 0 && rail < len(n.Rails) }

func (n *network) follows(m, next int) bool { return slices.Contains(n.nexts[m], next) }

// setting returns the setting that two moves need of which the second one follows the first one, and whether they need one.
func (n *network) setting(m, next int) (api.Setting, bool) {
	arrival := m ^ 1
	at := n.nodeAt(arrival)
	if n.Nodes[at].Kind != api.NodeSet {
		return api.Setting{}, false
	}
	// One of the two ends is the stem, whose slot is 0.
	return api.Setting{Node: at, Leg: max(n.slots[arrival], n.slots[next])}, true
}
