package street

import (
	"slices"

	"tramline/api"
)

const (
	mostLeast   = 120
	mostClear   = 60
	mostLongest = 600
	mostSkips   = 20
	mostCycle   = 2000
	mostTour    = 9
	noConflict  = -1
)

func within(x, least, most int) bool { return x >= least && x <= most }

// junctionRight reports whether a junction is as defined.
func junctionRight(j api.Junction) bool {
	return streamsRight(j) && clearsRight(j) && phasesRight(j) && within(j.Skips, 0, mostSkips) && gatesRight(j)
}

func streamsRight(j api.Junction) bool {
	for _, s := range j.Streams {
		if s.Kind < api.StreamCar || s.Kind > api.StreamWalk || !within(s.Least, 1, mostLeast) {
			return false
		}
	}
	return within(len(j.Streams), 1, api.MaxStreams)
}

func clearsRight(j api.Junction) bool {
	n := len(j.Streams)
	if len(j.Clears) != n || slices.ContainsFunc(j.Clears, func(row []int) bool { return len(row) != n }) {
		return false
	}
	for a, row := range j.Clears {
		for b, x := range row {
			if !within(x, noConflict, mostClear) || a == b && x != noConflict || conflict(j, a, b) != conflict(j, b, a) {
				return false
			}
		}
	}
	return true
}

// conflict reports whether two streams conflict.
func conflict(j api.Junction, a, b int) bool { return j.Clears[a][b] != noConflict }

func phasesRight(j api.Junction) bool {
	if !within(len(j.Phases), 1, api.MaxPhases) || len(j.Longest) != len(j.Phases) {
		return false
	}
	served := make([]bool, len(j.Streams))
	for i, phase := range j.Phases {
		if !phaseRight(j, phase) || !within(j.Longest[i], 1, mostLongest) {
			return false
		}
		for _, s := range phase {
			served[s] = true
			if j.Longest[i] < j.Streams[s].Least {
				return false
			}
		}
	}
	return !slices.Contains(served, false)
}

func phaseRight(j api.Junction, phase []int) bool {
	if len(phase) == 0 || !someStreams(j, phase) {
		return false
	}
	for _, a := range phase {
		for _, b := range phase {
			if conflict(j, a, b) {
				return false
			}
		}
	}
	return true
}

// someStreams reports whether a list contains streams in strictly increasing order.
func someStreams(j api.Junction, l []int) bool {
	for i, s := range l {
		if !within(s, 0, len(j.Streams)-1) || i > 0 && l[i-1] >= s {
			return false
		}
	}
	return true
}

func gatesRight(j api.Junction) bool {
	seen := make(map[api.Move]bool)
	for _, g := range j.Gates {
		if seen[g.Move] || !within(g.Stream, 0, len(j.Streams)-1) || j.Streams[g.Stream].Kind != api.StreamCar {
			return false
		}
		seen[g.Move] = true
	}
	return len(j.Gates) <= api.MaxGates
}

// clone copies a junction with all its lists.
func clone(j api.Junction) api.Junction {
	c := j
	c.Streams = slices.Clone(j.Streams)
	c.Clears = slices.Clone(j.Clears)
	for i := range c.Clears {
		c.Clears[i] = slices.Clone(c.Clears[i])
	}
	c.Phases = slices.Clone(j.Phases)
	for i := range c.Phases {
		c.Phases[i] = slices.Clone(c.Phases[i])
	}
	c.Longest = slices.Clone(j.Longest)
	c.Gates = slices.Clone(j.Gates)
	return c
}

// bound returns the bound of a junction.
func bound(j api.Junction) int {
	clearing := 0
	for _, row := range j.Clears {
		clearing = max(clearing, slices.Max(row))
	}
	return ((j.Skips+1)*len(j.Phases) + 1) * (slices.Max(j.Longest) + clearing)
}

// programRight reports whether a program is as defined for a number of streams.
func programRight(p api.Program, streams int) bool {
	if !within(p.Cycle, 1, mostCycle) || len(p.Begins) != streams || len(p.Lasts) != streams {
		return false
	}
	for i, begin := range p.Begins {
		if !within(begin, 0, p.Cycle-1) || !within(p.Lasts[i], 1, p.Cycle) || p.Lasts[i] == p.Cycle && begin != 0 {
			return false
		}
	}
	return true
}

// keeps reports whether a program is right for a junction.
func keeps(j api.Junction, p api.Program) bool {
	for a, s := range j.Streams {
		if p.Lasts[a] < s.Least {
			return false
		}
		for b := range j.Streams {
			if !conflict(j, a, b) {
				continue
			}
			there, back := between(p, a, b), between(p, b, a)
			if there < j.Clears[a][b] || p.Lasts[a]+p.Lasts[b]+there+back != p.Cycle {
				return false
			}
		}
	}
	return true
}

// between returns the seconds from the end of the green of a stream to the next beginning of that of another one.
func between(p api.Program, a, b int) int {
	return (p.Begins[b] - p.Begins[a] - p.Lasts[a] + 2*p.Cycle) % p.Cycle
}
