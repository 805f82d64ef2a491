package current

import (
	"slices"

	"tramline/api"
)

// settling is a grid that is being settled. The wires do not change, so its parts stay the same.
type settling struct {
	grid      api.Grid
	state     api.GridState
	loads     []api.GridLoad
	served    []bool
	parts     []part
	partAt    []int // for each node
	circuits  []circuit
	solutions []solution
	solved    []bool // whether a part has voltages
}

// begin returns a grid with all loads served; false if a part has too many nodes.
func begin(g api.Grid, s api.GridState, loads []api.GridLoad) (*settling, bool) {
	ps, ok := partsOf(g, s.Wires)
	if !ok {
		return nil, false
	}
	x := &settling{grid: g, loads: loads, parts: ps, partAt: make([]int, g.Nodes)}
	x.state = api.GridState{Feeds: slices.Clone(s.Feeds), Wires: slices.Clone(s.Wires)}
	x.served = slices.Repeat([]bool{true}, len(loads))
	x.circuits = make([]circuit, len(ps))
	x.solutions = make([]solution, len(ps))
	x.solved = make([]bool, len(ps))
	for i, p := range ps {
		for _, node := range p.nodes {
			x.partAt[node] = i
		}
	}
	for i := range ps {
		x.solve(i)
	}
	return x, true
}

// solve solves a part as it is now.
func (x *settling) solve(part int) {
	var served []api.GridLoad
	for i, l := range x.loads {
		if x.served[i] {
			served = append(served, l)
		}
	}
	x.circuits[part] = circuitOf(x.grid, x.parts[part], x.state.Feeds, served)
	x.solutions[part], x.solved[part] = x.circuits[part].solve()
}

func (x *settling) alive(part int) bool { return len(x.circuits[part].on) > 0 }

// hasVolts reports whether there are voltages.
func (x *settling) hasVolts() bool { return !slices.Contains(x.solved, false) }

// volt returns the voltage of a node: the numerator, and the denominator.
func (x *settling) volt(node int) (int, int) {
	part := x.partAt[node]
	s := x.solutions[part]
	return s.volts[x.circuits[part].index(node)], s.under
}

// amp returns the current of a feeder: the numerator, and the denominator.
func (x *settling) amp(feed int) (int, int) {
	part := x.partAt[x.grid.Feeds[feed].At]
	s := x.solutions[part]
	for i, f := range x.circuits[part].on {
		if f.At == x.grid.Feeds[feed].At {
			return s.amps[i], s.under
		}
	}
	return 0, 1
}

// dead finds a load that is served in a part that is not alive.
func (x *settling) dead() (api.Cut, bool) {
	for i, l := range x.loads {
		if x.served[i] && l.Units != 0 && !x.alive(x.partAt[l.At]) {
			return api.Cut{Kind: api.CutDead, Index: i, Value: frac(0, 1)}, true
		}
	}
	return api.Cut{}, false
}

// back finds a load that gives back more than its part takes.
func (x *settling) back() (api.Cut, bool) {
	i, ok := x.least(func(l api.GridLoad) bool {
		part := x.partAt[l.At]
		return l.Units < 0 && x.alive(part) && x.circuits[part].total() < 0
	})
	if !ok {
		return api.Cut{}, false
	}
	return api.Cut{Kind: api.CutReturn, Index: i, Value: frac(x.loads[i].Units, 1)}, true
}

// low finds a load in a part in which some load has less than the least voltage.
func (x *settling) low() (api.Cut, bool) {
	weak := make([]bool, len(x.parts))
	for i, l := range x.loads {
		if over, under := x.volt(l.At); x.served[i] && l.Units > 0 && over < x.grid.Least*under {
			weak[x.partAt[l.At]] = true
		}
	}
	i, ok := x.least(func(l api.GridLoad) bool { return l.Units > 0 && weak[x.partAt[l.At]] })
	if !ok {
		return api.Cut{}, false
	}
	return api.Cut{Kind: api.CutLow, Index: i, Value: frac(x.volt(x.loads[i].At))}, true
}

// trip finds the feeder that exceeds its limit most.
func (x *settling) trip() (api.Cut, bool) {
	found, most, mostUnder := -1, 0, 1
	for i, f := range x.grid.Feeds {
		over, under := x.amp(i)
		over -= f.Limit * under
		if over > 0 && compare(over, under, most, mostUnder) > 0 {
			found, most, mostUnder = i, over, under
		}
	}
	if found < 0 {
		return api.Cut{}, false
	}
	return api.Cut{Kind: api.CutTrip, Index: found, Value: frac(x.amp(found))}, true
}

// least returns the index of the served load with the least Rank, of several the last one, among those that match.
func (x *settling) least(matches func(api.GridLoad) bool) (int, bool) {
	found := -1
	for i, l := range x.loads {
		if x.served[i] && matches(l) && (found < 0 || l.Rank <= x.loads[found].Rank) {
			found = i
		}
	}
	return found, found >= 0
}

// next returns the first cut for which there is a reason.
func (x *settling) next() (api.Cut, bool) {
	var cut api.Cut
	found := false
rules:
	for _, rule := range []func() (api.Cut, bool){x.dead, x.back, x.low, x.trip} {
		if cut, found = rule(); found {
			break rules
		}
	}
	return cut, found
}

// cut carries out a cut.
func (x *settling) cut(c api.Cut) {
	if c.Kind == api.CutTrip {
		x.state.Feeds[c.Index] = false
		x.solve(x.partAt[x.grid.Feeds[c.Index].At])
		return
	}
	x.served[c.Index] = false
	x.solve(x.partAt[x.loads[c.Index].At])
}

// settle cuts until there is no reason any more.
func (x *settling) settle() []api.Cut {
	var cuts []api.Cut
	for c, ok := x.next(); ok; c, ok = x.next() {
		x.cut(c)
		cuts = append(cuts, c)
	}
	return cuts
}

func (x *settling) volts() []api.Frac {
	l := make([]api.Frac, x.grid.Nodes)
	for node := range l {
		l[node] = frac(x.volt(node))
	}
	return l
}

func (x *settling) amps() []api.Frac {
	l := make([]api.Frac, len(x.grid.Feeds))
	for i := range l {
		l[i] = frac(x.amp(i))
	}
	return l
}

// energy returns the energies of a part.
func (x *settling) energy(part int) api.Energy {
	c, s := x.circuits[part], x.solutions[part]
	given, taken, returned := 0, 0, 0
	for i, f := range c.on {
		given += f.Volts * s.amps[i]
	}
	for i, units := range c.taken {
		if units > 0 {
			taken += s.volts[i] * units
		} else {
			returned -= s.volts[i] * units
		}
	}
	return api.Energy{Given: frac(given, s.under), Taken: frac(taken, s.under), Returned: frac(returned, s.under), Lost: frac(given+returned-taken, s.under)}
}
