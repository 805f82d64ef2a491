package current

import (
	"math/bits"
	"slices"

	"tramline/api"
)

// part is a part of a grid with what belongs to it.
type part struct {
	nodes []int
	wires []api.GridWire
	feeds []int // indexes of feeders, also of those that are off
}

// partsOf returns the parts of a grid, and whether none has too many nodes.
func partsOf(g api.Grid, wires []bool) ([]part, bool) {
	var l []part
	for nodes := range parts(g, wires) {
		if len(nodes) > api.GridPart {
			return nil, false
		}
		p := part{nodes: nodes}
		for i, w := range g.Wires {
			if wires[i] && slices.Contains(nodes, w.A) {
				p.wires = append(p.wires, w)
			}
		}
		for i, f := range g.Feeds {
			if slices.Contains(nodes, f.At) {
				p.feeds = append(p.feeds, i)
			}
		}
		l = append(l, p)
	}
	return l, true
}

// solution is the voltages of the nodes of a part and the currents of its feeders, as fractions with one denominator.
type solution struct {
	volts []int
	amps  []int
	under int
}

// circuit is a part with the feeders that are on, and the current that is taken at each of its nodes.
type circuit struct {
	part
	on    []api.GridFeed
	taken []int
}

// circuitOf returns the circuit of a part for loads that are served.
func circuitOf(g api.Grid, p part, feeds []bool, loads []api.GridLoad) circuit {
	c := circuit{part: p, taken: make([]int, len(p.nodes))}
	for _, i := range filter(p.feeds, func(i int) bool { return feeds[i] }) {
		c.on = append(c.on, g.Feeds[i])
	}
	for _, l := range loads {
		if i := c.index(l.At); i >= 0 {
			c.taken[i] = l.Units
		}
	}
	return c
}

// index returns the index of a node in the part, or -1.
func (c circuit) index(node int) int { return slices.Index(c.nodes, node) }

func (c circuit) total() int {
	sum := 0
	for _, x := range c.taken {
		sum += x
	}
	return sum
}

// solve returns the voltages and the currents of the feeders that are on, and whether there are any.
func (c circuit) solve() (solution, bool) {
	if len(c.on) == 0 {
		idle := !slices.ContainsFunc(c.taken, func(x int) bool { return x != 0 })
		return solution{volts: make([]int, len(c.nodes)), under: 1}, idle
	}
	switch total := c.total(); {
	case total < 0:
		return solution{}, false
	case total == 0:
		return c.float()
	default:
		return c.feed()
	}
}

// feed solves a circuit that takes current. Feeders that would take some back are left out, until there are none: with each one that is left out voltages rise, so none of them would give current later.
func (c circuit) feed() (solution, bool) {
	giving := c.on
	for range len(c.on) {
		rows := c.rows()
		for _, f := range giving {
			i := c.index(f.At)
			rows[i][i] += f.Siem
			rows[i][len(c.nodes)] += f.Siem * f.Volts
		}
		s := cramer(rows)
		less := filter(giving, func(f api.GridFeed) bool { return s.volts[c.index(f.At)] < f.Volts*s.under })
		if len(less) == len(giving) {
			return c.withAmps(s), true
		}
		giving = less
	}
	return solution{}, false
}

// float solves a circuit whose loads feed each other: one feeder holds its voltage, no other one has less than its own.
func (c circuit) float() (solution, bool) {
	for i := range len(c.on) {
		at := c.index(c.on[i].At)
		rows := c.rows()
		rows[at] = make([]int, len(c.nodes)+1)
		rows[at][at], rows[at][len(c.nodes)] = 1, c.on[i].Volts
		s := cramer(rows)
		low := filter(c.on, func(f api.GridFeed) bool { return s.volts[c.index(f.At)] < f.Volts*s.under })
		if len(low) == 0 {
			return c.withAmps(s), true
		}
	}
	return solution{}, false
}

// rows returns the equations of all nodes without feeders: the last column is the right side.
func (c circuit) rows() [][]int {
	n := len(c.nodes)
	rows := make([][]int, n)
	for i := range rows {
		rows[i] = make([]int, n+1)
		rows[i][n] = -c.taken[i]
	}
	for _, w := range c.wires {
		a, b := c.index(w.A), c.index(w.B)
		rows[a][a] += w.Siem
		rows[b][b] += w.Siem
		rows[a][b] -= w.Siem
		rows[b][a] -= w.Siem
	}
	return rows
}

// withAmps adds the currents of the feeders that are on.
func (c circuit) withAmps(s solution) solution {
	for _, f := range c.on {
		s.amps = append(s.amps, f.Siem*max(0, f.Volts*s.under-s.volts[c.index(f.At)]))
	}
	return s
}

// cramer solves equations by determinants. Products may wrap around, but the determinants themselves fit.
func cramer(rows [][]int) solution {
	n := len(rows)
	known := map[int]int{0: 1}
	var minor func(columns int) int // of these columns, and as many of the last rows
	minor = func(columns int) int {
		if d, ok := known[columns]; ok {
			return d
		}
		sum, sign := 0, 1
		for i, x := range rows[n-bits.OnesCount(uint(columns))] {
			if columns>>i&1 == 0 {
				continue
			}
			if x != 0 {
				sum += sign * x * minor(columns&^(1<<i))
			}
			sign = -sign
		}
		known[columns] = sum
		return sum
	}
	all := 1<<(n+1) - 1
	s := solution{under: minor(all &^ (1 << n))}
	for i := range n {
		sign := 1 - 2*((n-1-i)%2) // the right side comes from the end to the column i
		s.volts = append(s.volts, sign*minor(all&^(1<<i)))
	}
	return s
}
