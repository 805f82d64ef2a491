// Package sample makes plans for tests: the plan of the document's examples, and plans that look random but follow from a number.
package sample

import "tramline/api"

// Rand is a sequence of numbers that follows from its first one.
type Rand struct {
	seed uint64
}

// New returns the sequence of a number.
func New(seed int) *Rand { return &Rand{seed: uint64(seed)*2862933555777941757 + 3037000493} }

// Below returns a number from 0 to n - 1; n is positive.
func (r *Rand) Below(n int) int {
	r.seed ^= r.seed << 13
	r.seed ^= r.seed >> 7
	r.seed ^= r.seed << 17
	return int((r.seed >> 11) % uint64(n))
}

// From returns a number from low to high.
func (r *Rand) From(low, high int) int { return low + r.Below(high-low+1) }

// Often reports true in so many of a hundred cases.
func (r *Rand) Often(percent int) bool { return r.Below(100) < percent }

// Example returns the plan p of the document's examples.
func Example() api.Plan {
	return api.Plan{
		Nodes: []api.Node{
			{Kind: api.NodeEnd, Ends: []api.RailEnd{{}}},
			{Spot: api.Spot{X: 1000}, Kind: api.NodeSet, Ends: []api.RailEnd{{Last: true}, {Rail: 1}, {Rail: 2}}},
			{Spot: api.Spot{X: 2000}, Kind: api.NodeEnd, Ends: []api.RailEnd{{Rail: 1, Last: true}}},
			{Spot: api.Spot{X: 2000, Y: 500}, Kind: api.NodeEnd, Ends: []api.RailEnd{{Rail: 2, Last: true}}},
		},
		Rails: []api.Rail{
			{To: 1, Limit: 8000},
			{From: 1, To: 2, Limit: 8000},
			{From: 1, To: 3, Shape: []api.Spot{{X: 1600}}, Limit: 8000},
		},
	}
}

// Lines returns a plan of rails that do not meet: one for each line of at least two spots.
func Lines(lines ...[]api.Spot) api.Plan {
	var p api.Plan
	for i, line := range lines {
		last := len(line) - 1
		p.Nodes = append(p.Nodes,
			api.Node{Spot: line[0], Kind: api.NodeEnd, Ends: []api.RailEnd{{Rail: i}}},
			api.Node{Spot: line[last], Kind: api.NodeEnd, Ends: []api.RailEnd{{Rail: i, Last: true}}})
		p.Rails = append(p.Rails, api.Rail{From: 2 * i, To: 2*i + 1, Shape: append([]api.Spot(nil), line[1:last]...), Limit: 8000})
	}
	return p
}

// Plan returns a valid plan of about so many nodes, whose spots lie from 0 to size in both directions; size is at least 4.
func Plan(r *Rand, nodes, size int) api.Plan {
	var p api.Plan
	var open []api.RailEnd // the slots of nodes that still need a rail: the node and the index, for now
	for i := range nodes {
		n := api.Node{Spot: spot(r, size), Kind: kind(r)}
		ends := []int{0, 1, 2, 4, 3, 3, 3}[n.Kind]
		if n.Kind == api.NodeSpring || n.Kind == api.NodeLocked {
			n.Normal = r.From(1, 2)
		}
		n.Ends = make([]api.RailEnd, ends)
		p.Nodes = append(p.Nodes, n)
		for slot := range ends {
			open = append(open, api.RailEnd{Rail: i<<3 + slot})
		}
	}
	if len(open)%2 == 1 {
		open = append(open, api.RailEnd{Rail: len(p.Nodes) << 3})
		p.Nodes = append(p.Nodes, api.Node{Spot: spot(r, size), Kind: api.NodeEnd, Ends: make([]api.RailEnd, 1)})
	}
	for len(open) > 0 {
		a := take(r, &open)
		b := take(r, &open)
		lay(r, &p, a, b, size)
	}
	return p
}

// kind returns a kind of node; points are more frequent, so that there are several ways.
func kind(r *Rand) api.NodeKind {
	if r.Often(40) {
		return api.NodeSet
	}
	return api.NodeKind(r.From(1, 6))
}

func spot(r *Rand, size int) api.Spot { return api.Spot{X: r.From(0, size), Y: r.From(0, size)} }

func take(r *Rand, open *[]api.RailEnd) int {
	i := r.Below(len(*open))
	x := (*open)[i].Rail
	(*open)[i] = (*open)[len(*open)-1]
	*open = (*open)[:len(*open)-1]
	return x
}

// lay adds a rail between two slots of nodes.
func lay(r *Rand, p *api.Plan, a, b, size int) {
	n := len(p.Rails)
	rail := api.Rail{From: a >> 3, To: b >> 3, Limit: r.From(1, 50) * 1000, Slope: r.From(-120, 120)}
	p.Nodes[rail.From].Ends[a&7] = api.RailEnd{Rail: n}
	p.Nodes[rail.To].Ends[b&7] = api.RailEnd{Rail: n, Last: true}
	last, end := p.Nodes[rail.From].Spot, p.Nodes[rail.To].Spot
	for last == end || len(rail.Shape) < 3 && r.Often(40) {
		s := spot(r, size)
		if s != last && s != end {
			rail.Shape = append(rail.Shape, s)
			last = s
		}
	}
	p.Rails = append(p.Rails, rail)
}
