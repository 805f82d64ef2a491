package current_test

import (
	"math"
	"math/big"
	"reflect"
	"slices"
	"testing"

	"tramline/api"
	"tramline/current"
	"tramline/sample"
)

// example returns the grid of the chapter, and the state in which all is on.
func example() (api.Grid, api.GridState) {
	g := api.Grid{
		Nodes: 3,
		Wires: []api.GridWire{{A: 0, B: 1, Siem: 2}, {A: 1, B: 2, Siem: 1, Switch: true}},
		Feeds: []api.GridFeed{{At: 0, Volts: 600, Siem: 2, Limit: 100}, {At: 2, Volts: 600, Siem: 1, Limit: 30}},
		Least: 500,
	}
	return g, api.GridState{Feeds: []bool{true, true}, Wires: []bool{true, true}}
}

func whole(n ...int) []api.Frac {
	var l []api.Frac
	for _, x := range n {
		l = append(l, api.Frac{Num: x, Den: 1})
	}
	return l
}

// random returns a grid that looks random, of parts of at most api.GridPart nodes, with a state and loads.
func random(r *sample.Rand) (api.Grid, api.GridState, []api.GridLoad) {
	var g api.Grid
	var s api.GridState
	var loads []api.GridLoad
	for range r.From(1, 3) {
		n := r.From(1, api.GridPart)
		addPart(r, &g, &s, n)
		for node := g.Nodes; node < g.Nodes+n; node++ {
			if r.Often(40) && len(g.Feeds) < api.GridFeeds {
				g.Feeds = append(g.Feeds, api.GridFeed{At: node, Volts: r.From(590, 610), Siem: r.From(1, 4), Limit: r.From(0, 120)})
				s.Feeds = append(s.Feeds, r.Often(85))
			}
			if r.Often(50) {
				loads = append(loads, api.GridLoad{At: node, Units: r.From(-15, 30), Rank: r.From(0, 3)})
			}
		}
		g.Nodes += n
	}
	g.Least = r.From(0, 600)
	return g, s, loads
}

// addPart adds the wires of n more nodes; some of them are off.
func addPart(r *sample.Rand, g *api.Grid, s *api.GridState, n int) {
	free := slices.Repeat([]int{api.GridAt}, n)
	wire := func(a, b int, on bool) {
		if a == b || free[a] == 0 || free[b] == 0 {
			return
		}
		free[a]--
		free[b]--
		g.Wires = append(g.Wires, api.GridWire{A: g.Nodes + a, B: g.Nodes + b, Siem: r.From(1, 4), Switch: !on || r.Often(30)})
		s.Wires = append(s.Wires, on)
	}
	for i := 1; i < n; i++ {
		wire(i, r.From(max(0, i-3), i-1), r.Often(95))
	}
	for range r.From(0, n) {
		wire(r.Below(n), r.Below(n), r.Often(60))
	}
}

// TestCheck is for P4.1: grids that are as defined, and others.
func TestCheck(t *testing.T) {
	for name, c := range map[string]struct {
		do   func(g *api.Grid)
		want api.Errno
	}{
		"as it is":             {func(g *api.Grid) {}, api.OK},
		"no nodes":             {func(g *api.Grid) { *g = api.Grid{} }, api.ErrArg},
		"one node":             {func(g *api.Grid) { *g = api.Grid{Nodes: 1} }, api.OK},
		"40 nodes":             {func(g *api.Grid) { g.Nodes = 40 }, api.OK},
		"41 nodes":             {func(g *api.Grid) { g.Nodes = 41 }, api.ErrArg},
		"huge":                 {func(g *api.Grid) { g.Nodes = math.MaxInt }, api.ErrArg},
		"wire to nowhere":      {func(g *api.Grid) { g.Wires[0].B = 3 }, api.ErrArg},
		"wire from nowhere":    {func(g *api.Grid) { g.Wires[0].A = -1 }, api.ErrArg},
		"wire from node 3":     {func(g *api.Grid) { g.Wires[0].A = 3 }, api.ErrArg},
		"wire to node -1":      {func(g *api.Grid) { g.Wires[0].B = -1 }, api.ErrArg},
		"wire to itself":       {func(g *api.Grid) { g.Wires[0].B = 0 }, api.ErrArg},
		"wire of 0":            {func(g *api.Grid) { g.Wires[0].Siem = 0 }, api.ErrArg},
		"wire of 4":            {func(g *api.Grid) { g.Wires[0].Siem = 4 }, api.OK},
		"wire of 5":            {func(g *api.Grid) { g.Wires[0].Siem = 5 }, api.ErrArg},
		"3 wires at a node":    {func(g *api.Grid) { g.Wires = slices.Repeat(g.Wires[:1], 3) }, api.OK},
		"4 wires at a node":    {func(g *api.Grid) { g.Wires = slices.Repeat(g.Wires[:1], 4) }, api.ErrArg},
		"feeder nowhere":       {func(g *api.Grid) { g.Feeds[0].At = 3 }, api.ErrArg},
		"feeder at -1":         {func(g *api.Grid) { g.Feeds[0].At = -1 }, api.ErrArg},
		"two feeders at one":   {func(g *api.Grid) { g.Feeds[1].At = 0 }, api.ErrArg},
		"feeder of 0 volts":    {func(g *api.Grid) { g.Feeds[0].Volts = 0 }, api.ErrArg},
		"feeder of 1000 volts": {func(g *api.Grid) { g.Feeds[0].Volts = 1000 }, api.OK},
		"feeder of 1001 volts": {func(g *api.Grid) { g.Feeds[0].Volts = 1001 }, api.ErrArg},
		"feeder of 0 siemens":  {func(g *api.Grid) { g.Feeds[0].Siem = 0 }, api.ErrArg},
		"feeder of 5 siemens":  {func(g *api.Grid) { g.Feeds[0].Siem = 5 }, api.ErrArg},
		"limit -1":             {func(g *api.Grid) { g.Feeds[0].Limit = -1 }, api.ErrArg},
		"limit 2000":           {func(g *api.Grid) { g.Feeds[0].Limit = 2000 }, api.OK},
		"limit 2001":           {func(g *api.Grid) { g.Feeds[0].Limit = 2001 }, api.ErrArg},
		"least -1":             {func(g *api.Grid) { g.Least = -1 }, api.ErrArg},
		"least 1000":           {func(g *api.Grid) { g.Least = 1000 }, api.OK},
		"least 1001":           {func(g *api.Grid) { g.Least = 1001 }, api.ErrArg},
		"12 feeders":           {func(g *api.Grid) { manyFeeds(g, 12) }, api.OK},
		"13 feeders":           {func(g *api.Grid) { manyFeeds(g, 13) }, api.ErrArg},
	} {
		g, _ := example()
		c.do(&g)
		if e := current.Check(g); e != c.want {
			t.Error(name, e)
		}
		if c.want == api.OK {
			continue
		}
		s := api.GridState{Feeds: make([]bool, len(g.Feeds)), Wires: slices.Repeat([]bool{true}, len(g.Wires))}
		for i, e := range errors(g, s, nil) {
			if e != api.ErrArg {
				t.Error(name, i, e)
			}
		}
	}
	// 60 wires are the most that 40 nodes of three wires can have, so the bound on wires cannot be met before.
	g := api.Grid{Nodes: 40}
	for i := range 40 {
		g.Wires = append(g.Wires, api.GridWire{A: i, B: (i + 1) % 40, Siem: 1}, api.GridWire{A: i, B: (i + 2) % 40, Siem: 1}, api.GridWire{A: i, B: (i + 3) % 40, Siem: 1})
	}
	if e := current.Check(g); e != api.ErrArg {
		t.Error(e)
	}
}

func manyFeeds(g *api.Grid, n int) {
	g.Nodes, g.Feeds = 40, nil
	for i := range n {
		g.Feeds = append(g.Feeds, api.GridFeed{At: i, Volts: 1, Siem: 1})
	}
}

// errors returns the errors of all functions that take a grid, a state and loads; Parts is the first one, Relief the last one.
func errors(g api.Grid, s api.GridState, loads []api.GridLoad) []api.Errno {
	_, e0 := current.Parts(g, s)
	volts, feeds, e1 := current.Solve(g, s, loads)
	energies, e2 := current.Energies(g, s, loads)
	settled, e3 := current.Settle(g, s, loads)
	plan, e4 := current.Relief(g, s, loads)
	if e1 != api.OK && (len(volts)+len(feeds) > 0 || current.Holds(g, s, loads, make([]api.Frac, max(0, min(g.Nodes, 40))))) ||
		e2 != api.OK && len(energies) > 0 || e3 != api.OK && !reflect.DeepEqual(settled, api.Settled{}) || e4 != api.OK && len(plan) > 0 {
		return []api.Errno{-1}
	}
	return []api.Errno{e0, e1, e2, e3, e4}
}

// TestArguments is for P4.1 to P4.5: states and loads that are not as defined, and parts with too many nodes.
func TestArguments(t *testing.T) {
	g, on := example()
	load := func(at, units, rank int) []api.GridLoad { return []api.GridLoad{{At: at, Units: units, Rank: rank}} }
	all := func(e api.Errno) []api.Errno { return slices.Repeat([]api.Errno{e}, 5) }
	solved := func(e api.Errno) []api.Errno { return []api.Errno{api.OK, e, e, e, e} }
	for name, c := range map[string]struct {
		s     api.GridState
		loads []api.GridLoad
		want  []api.Errno
	}{
		"as it is":            {on, load(1, 40, 0), all(api.OK)},
		"no feeders":          {api.GridState{Wires: on.Wires}, nil, all(api.ErrArg)},
		"too many feeders":    {api.GridState{Feeds: make([]bool, 3), Wires: on.Wires}, nil, all(api.ErrArg)},
		"too few wires":       {api.GridState{Feeds: on.Feeds, Wires: on.Wires[:1]}, nil, all(api.ErrArg)},
		"wire without switch": {api.GridState{Feeds: on.Feeds, Wires: []bool{false, true}}, nil, all(api.ErrArg)},
		"load nowhere":        {on, load(3, 1, 1), solved(api.ErrArg)},
		"load at -1":          {on, load(-1, 1, 1), solved(api.ErrArg)},
		"load of 40":          {on, load(0, 40, 100), all(api.OK)},
		"load of 41":          {on, load(0, 41, 100), solved(api.ErrArg)},
		"load of -41":         {on, load(0, -41, 100), solved(api.ErrArg)},
		"rank 101":            {on, load(0, 1, 101), solved(api.ErrArg)},
		"rank -1":             {on, load(0, 1, -1), solved(api.ErrArg)},
		"two loads at a node": {on, append(load(0, 1, 1), load(0, 1, 1)...), solved(api.ErrArg)},
	} {
		if l := errors(g, c.s, c.loads); !slices.Equal(l, c.want) {
			t.Error(name, l)
		}
	}
	for n, want := range map[int]api.Errno{10: api.OK, 11: api.ErrLong} {
		g, s := line(n)
		if l := errors(g, s, nil); !slices.Equal(l[1:4], []api.Errno{want, want, want}) || l[0] != api.OK {
			t.Error(n, l)
		}
		if parts, e := current.Parts(g, s); e != api.OK || len(parts) != 1 || len(parts[0]) != n {
			t.Error(n, parts, e)
		}
	}
}

// line returns a grid of so many nodes in a line, fed at the first one.
func line(n int) (api.Grid, api.GridState) {
	g := api.Grid{Nodes: n, Feeds: []api.GridFeed{{Volts: 600, Siem: 1, Limit: 100}}}
	s := api.GridState{Feeds: []bool{true}}
	for i := 1; i < n; i++ {
		g.Wires = append(g.Wires, api.GridWire{A: i, B: i - 1, Siem: 1, Switch: true})
		s.Wires = append(s.Wires, true)
	}
	return g, s
}

// TestParts is for P4.1: each node belongs to exactly one part, and wires that are on do not leave it.
func TestParts(t *testing.T) {
	g, s := example()
	s.Wires[1] = false
	if l, e := current.Parts(g, s); e != api.OK || !reflect.DeepEqual(l, [][]int{{0, 1}, {2}}) {
		t.Error(l, e)
	}
	for seed := range 200 {
		g, s, _ := random(sample.New(seed))
		l, e := current.Parts(g, s)
		if e != api.OK {
			t.Fatal(seed, e)
		}
		part := slices.Repeat([]int{-1}, g.Nodes)
		for i, nodes := range l {
			if !slices.IsSorted(nodes) || i > 0 && l[i-1][0] >= nodes[0] {
				t.Fatal(seed, l)
			}
			for _, node := range nodes {
				if part[node] >= 0 {
					t.Fatal(seed, l)
				}
				part[node] = i
			}
			if len(nodes) != reach(g, s, nodes[0]) {
				t.Fatal(seed, l)
			}
		}
		for i, w := range g.Wires {
			if part[w.A] < 0 || part[w.B] < 0 || s.Wires[i] && part[w.A] != part[w.B] {
				t.Fatal(seed, l)
			}
		}
	}
}

// reach returns how many nodes are connected with one.
func reach(g api.Grid, s api.GridState, node int) int {
	seen := map[int]bool{node: true}
	for range g.Nodes {
		for i, w := range g.Wires {
			if s.Wires[i] && (seen[w.A] || seen[w.B]) {
				seen[w.A], seen[w.B] = true, true
			}
		}
	}
	return len(seen)
}

func rat(f api.Frac) *big.Rat { return big.NewRat(int64(f.Num), int64(f.Den)) }

func times(n int, x *big.Rat) *big.Rat { return new(big.Rat).Mul(big.NewRat(int64(n), 1), x) }

// reduced reports whether a fraction is reduced.
func reduced(f api.Frac) bool {
	return f.Den > 0 && rat(f).Num().Int64() == int64(f.Num) && rat(f).Denom().Int64() == int64(f.Den)
}

// balanced reports whether voltages and currents fulfill both laws at all nodes.
func balanced(g api.Grid, s api.GridState, loads []api.GridLoad, volts, feeds []api.Frac) bool {
	sum := make([]*big.Rat, g.Nodes)
	for i := range sum {
		sum[i] = new(big.Rat)
	}
	for i, w := range g.Wires {
		if s.Wires[i] {
			flow := times(w.Siem, new(big.Rat).Sub(rat(volts[w.A]), rat(volts[w.B])))
			sum[w.A].Add(sum[w.A], flow)
			sum[w.B].Sub(sum[w.B], flow)
		}
	}
	for _, l := range loads {
		sum[l.At].Add(sum[l.At], big.NewRat(int64(l.Units), 1))
	}
	for i, f := range g.Feeds {
		amp := times(f.Siem, new(big.Rat).Sub(big.NewRat(int64(f.Volts), 1), rat(volts[f.At])))
		if !s.Feeds[i] || amp.Sign() < 0 {
			amp = new(big.Rat)
		}
		if amp.Cmp(rat(feeds[i])) != 0 {
			return false
		}
		sum[f.At].Sub(sum[f.At], amp)
	}
	return !slices.ContainsFunc(sum, func(x *big.Rat) bool { return x.Sign() != 0 })
}

// partSums returns, for each part, whether it is alive and the sum of the loads, whether some load is not 0, and whether a feeder has exactly its voltage.
func partSums(g api.Grid, s api.GridState, loads []api.GridLoad, volts []api.Frac) (alive []bool, sums []int, idle []bool, touches []bool) {
	l, _ := current.Parts(g, s)
	for _, nodes := range l {
		a, sum, none, touch := false, 0, true, false
		for _, x := range loads {
			if slices.Contains(nodes, x.At) {
				sum += x.Units
				none = none && x.Units == 0
			}
		}
		for i, f := range g.Feeds {
			if s.Feeds[i] && slices.Contains(nodes, f.At) {
				a = true
				touch = touch || len(volts) > 0 && volts[f.At] == (api.Frac{Num: f.Volts, Den: 1})
			}
		}
		alive, sums, idle, touches = append(alive, a), append(sums, sum), append(idle, none), append(touches, touch)
	}
	return alive, sums, idle, touches
}

// TestSolveExamples is for P4.2.
func TestSolveExamples(t *testing.T) {
	g, on := example()
	off := api.GridState{Feeds: on.Feeds, Wires: []bool{true, false}}
	load := []api.GridLoad{{At: 1, Units: 40}}
	third := func(n int) api.Frac { return api.Frac{Num: n, Den: 3} }
	for i, c := range []struct {
		s            api.GridState
		loads        []api.GridLoad
		volts, feeds []api.Frac
		want         api.Errno
	}{
		{on, load, []api.Frac{third(1760), third(1720), third(1760)}, []api.Frac{third(80), third(40)}, api.OK},
		{off, load, whole(580, 560, 600), whole(40, 0), api.OK},
		{off, []api.GridLoad{{At: 0, Units: 5}, {At: 1, Units: -5}}, []api.Frac{{Num: 600, Den: 1}, {Num: 1205, Den: 2}, {Num: 600, Den: 1}}, whole(0, 0), api.OK},
		{off, []api.GridLoad{{At: 2, Units: -5}}, nil, nil, api.ErrNone},
		{api.GridState{Feeds: []bool{false, true}, Wires: off.Wires}, load, nil, nil, api.ErrNone},
		{api.GridState{Feeds: []bool{false, true}, Wires: off.Wires}, []api.GridLoad{{At: 0}}, whole(0, 0, 600), whole(0, 0), api.OK},
		{api.GridState{Feeds: []bool{false, true}, Wires: off.Wires}, []api.GridLoad{{At: 0, Units: 1}, {At: 1, Units: -1}}, nil, nil, api.ErrNone},
	} {
		volts, feeds, e := current.Solve(g, c.s, c.loads)
		if e != c.want || !slices.Equal(volts, c.volts) || !slices.Equal(feeds, c.feeds) {
			t.Error(i, volts, feeds, e)
		}
	}
}

// TestSolve is for P4.2: both laws hold at all nodes, and there are no voltages only where there can be none.
func TestSolve(t *testing.T) {
	seen := map[string]int{}
	for seed := range 1500 {
		r := sample.New(seed)
		g, s, loads := random(r)
		if seed%3 == 0 {
			even(g, s, loads)
		}
		volts, feeds, e := current.Solve(g, s, loads)
		alive, sums, idle, touches := partSums(g, s, loads, volts)
		none := false
		for i := range alive {
			none = none || !alive[i] && !idle[i] || alive[i] && sums[i] < 0
		}
		if none != (e == api.ErrNone) || !none && e != api.OK {
			t.Fatal(seed, e)
		}
		if none {
			seen["none"]++
			continue
		}
		if !balanced(g, s, loads, volts, feeds) || slices.ContainsFunc(append(slices.Clone(volts), feeds...), func(f api.Frac) bool { return !reduced(f) }) {
			t.Fatal(seed, volts, feeds)
		}
		l, _ := current.Parts(g, s)
		for i, nodes := range l {
			if alive[i] && sums[i] == 0 && !touches[i] {
				t.Fatal(seed, nodes, volts, "these are not the least")
			}
			if alive[i] && sums[i] == 0 && !idle[i] {
				seen["even"]++
			}
			if !alive[i] && slices.ContainsFunc(nodes, func(n int) bool { return volts[n].Num != 0 }) {
				t.Fatal(seed, nodes, volts)
			}
			for k, f := range g.Feeds {
				if sums[i] == 0 && slices.Contains(nodes, f.At) && feeds[k].Num != 0 {
					t.Fatal(seed, nodes, feeds)
				}
			}
		}
		if seed%7 == 0 {
			checkHolds(t, seed, g, s, loads, volts)
		}
		seen["solved"]++
	}
	if seen["none"] < 20 || seen["even"] < 20 || seen["solved"] < 20 {
		t.Error("the samples are too simple:", seen)
	}
}

// even changes loads so that those of the part of the first load have the sum 0, if that is possible.
func even(g api.Grid, s api.GridState, loads []api.GridLoad) {
	l, _ := current.Parts(g, s)
	for _, nodes := range l {
		sum, last := 0, -1
		for i, x := range loads {
			if slices.Contains(nodes, x.At) {
				sum += x.Units
				last = i
			}
		}
		if last >= 0 && loads[last].Units-sum >= -40 && loads[last].Units-sum <= 40 {
			loads[last].Units -= sum
		}
	}
}

func checkHolds(t *testing.T, seed int, g api.Grid, s api.GridState, loads []api.GridLoad, volts []api.Frac) {
	t.Helper()
	if !current.Holds(g, s, loads, volts) {
		t.Fatal(seed, "the voltages do not hold")
	}
	for i, f := range volts {
		for _, other := range []api.Frac{{Num: f.Num + 1, Den: f.Den}, {Num: f.Num, Den: f.Den + 1}, {Num: 2 * f.Num, Den: 2 * f.Den}, {Num: -f.Num, Den: -f.Den}, {Num: f.Num}, {}, {Num: math.MinInt, Den: math.MaxInt}} {
			changed := slices.Clone(volts)
			changed[i] = other
			if current.Holds(g, s, loads, changed) {
				t.Fatal(seed, i, other, "holds, too")
			}
		}
	}
	if current.Holds(g, s, loads, volts[1:]) || current.Holds(g, s, loads, append(slices.Clone(volts), volts[0])) {
		t.Fatal(seed, "lists of other lengths hold")
	}
}

// TestGreat is for P4.2: the greatest numbers that a part can lead to.
func TestGreat(t *testing.T) {
	for seed := range 60 {
		r := sample.New(seed)
		g := api.Grid{Nodes: 10}
		s := api.GridState{}
		for i := range 10 { // five corners inside, five outside
			g.Wires = append(g.Wires, api.GridWire{A: i, B: i/5*5 + (i+1+i/5)%5, Siem: r.From(3, 4)})
		}
		for i := range 5 {
			g.Wires = append(g.Wires, api.GridWire{A: i, B: i + 5, Siem: r.From(3, 4)})
		}
		s.Wires = slices.Repeat([]bool{true}, 15)
		var loads []api.GridLoad
		for i := range 10 {
			if seed%2 == 0 || i == 0 {
				g.Feeds = append(g.Feeds, api.GridFeed{At: i, Volts: r.From(900, 1000), Siem: r.From(1, 4), Limit: 2000})
				s.Feeds = append(s.Feeds, true)
			}
			loads = append(loads, api.GridLoad{At: i, Units: r.From(20, 40)})
		}
		if seed%3 == 0 { // a long line, with all loads far from the feeder
			g.Wires = g.Wires[:0]
			for i := range 9 {
				g.Wires = append(g.Wires, api.GridWire{A: i, B: i + 1, Siem: 1})
			}
			s.Wires = s.Wires[:9]
		}
		if e := current.Check(g); e != api.OK {
			t.Fatal(seed, e)
		}
		volts, feeds, e := current.Solve(g, s, loads)
		if e != api.OK || !balanced(g, s, loads, volts, feeds) {
			t.Fatal(seed, volts, feeds, e)
		}
		if l, e := current.Energies(g, s, loads); e != api.OK || !energyRight(g, s, loads, volts, feeds, l) {
			t.Fatal(seed, l, e)
		}
	}
}
