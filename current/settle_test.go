package current_test

import (
	"math/big"
	"reflect"
	"slices"
	"testing"

	"tramline/api"
	"tramline/current"
	"tramline/sample"
)

// energyRight says whether energies are those of the document.
func energyRight(g api.Grid, s api.GridState, loads []api.GridLoad, volts, feeds []api.Frac, l []api.Energy) bool {
	parts, _ := current.Parts(g, s)
	if len(parts) != len(l) {
		return false
	}
	for i, nodes := range parts {
		given, taken, returned := new(big.Rat), new(big.Rat), new(big.Rat)
		for k, f := range g.Feeds {
			if slices.Contains(nodes, f.At) {
				given.Add(given, times(f.Volts, rat(feeds[k])))
			}
		}
		for _, x := range loads {
			if slices.Contains(nodes, x.At) && x.Units > 0 {
				taken.Add(taken, times(x.Units, rat(volts[x.At])))
			} else if slices.Contains(nodes, x.At) {
				returned.Add(returned, times(-x.Units, rat(volts[x.At])))
			}
		}
		lost := new(big.Rat).Sub(new(big.Rat).Add(given, returned), taken)
		e := l[i]
		for k, f := range []api.Frac{e.Given, e.Taken, e.Returned, e.Lost} {
			if !reduced(f) || rat(f).Cmp([]*big.Rat{given, taken, returned, lost}[k]) != 0 {
				return false
			}
		}
	}
	return true
}

// TestEnergies is for P4.3.
func TestEnergies(t *testing.T) {
	g, s := example()
	s.Wires[1] = false
	l, e := current.Energies(g, s, []api.GridLoad{{At: 1, Units: 40}})
	n := whole(24000, 22400, 0, 1600)
	want := []api.Energy{{Given: n[0], Taken: n[1], Returned: n[2], Lost: n[3]}, {Given: n[2], Taken: n[2], Returned: n[2], Lost: n[2]}}
	if e != api.OK || !slices.Equal(l, want) {
		t.Error(l, e)
	}
	for seed := range 600 {
		g, s, loads := random(sample.New(seed))
		if seed%3 == 0 {
			even(g, s, loads)
		}
		volts, feeds, e := current.Solve(g, s, loads)
		l, e1 := current.Energies(g, s, loads)
		if e != e1 || e == api.OK && !energyRight(g, s, loads, volts, feeds, l) || e != api.OK && len(l) > 0 {
			t.Fatal(seed, l, e, e1)
		}
		positive := !slices.ContainsFunc(volts, func(f api.Frac) bool { return f.Num < 0 })
		for _, x := range l {
			if positive && (x.Given.Num < 0 || x.Taken.Num < 0 || x.Returned.Num < 0) || x.Lost.Num < 0 {
				t.Fatal(seed, x)
			}
		}
	}
}

// settleOf settles a grid as the document defines it, with Solve alone.
func settleOf(g api.Grid, s api.GridState, loads []api.GridLoad) api.Settled {
	r := api.Settled{State: api.GridState{Feeds: slices.Clone(s.Feeds), Wires: slices.Clone(s.Wires)}, Served: slices.Repeat([]bool{true}, len(loads))}
	for {
		now := slices.Clone(loads)
		for i := range now {
			if !r.Served[i] {
				now[i].Units = 0
			}
		}
		cut, ok := firstCut(g, &r, now)
		if !ok {
			return r
		}
		r.Cuts = append(r.Cuts, cut)
		if cut.Kind == api.CutTrip {
			r.State.Feeds[cut.Index] = false
		} else {
			r.Served[cut.Index] = false
		}
	}
}

// firstCut returns the cut that is made next, if there is one; otherwise it notes voltages and currents.
func firstCut(g api.Grid, r *api.Settled, now []api.GridLoad) (api.Cut, bool) {
	parts, _ := current.Parts(g, r.State)
	alive, sums, _, _ := partSums(g, r.State, now, nil)
	partOf := func(node int) int {
		return slices.IndexFunc(parts, func(nodes []int) bool { return slices.Contains(nodes, node) })
	}
	for i, l := range now {
		if l.Units != 0 && !alive[partOf(l.At)] {
			return api.Cut{Kind: api.CutDead, Index: i, Value: api.Frac{Den: 1}}, true
		}
	}
	least := func(matches func(api.GridLoad) bool) int {
		best := -1
		for i, l := range now {
			if matches(l) && (best < 0 || l.Rank < now[best].Rank || l.Rank == now[best].Rank && i > best) {
				best = i
			}
		}
		return best
	}
	if i := least(func(l api.GridLoad) bool { return l.Units < 0 && sums[partOf(l.At)] < 0 }); i >= 0 {
		return api.Cut{Kind: api.CutReturn, Index: i, Value: api.Frac{Num: now[i].Units, Den: 1}}, true
	}
	volts, feeds, _ := current.Solve(g, r.State, now)
	low := func(l api.GridLoad) bool {
		return l.Units > 0 && rat(volts[l.At]).Cmp(big.NewRat(int64(g.Least), 1)) < 0
	}
	if i := least(func(l api.GridLoad) bool {
		return l.Units > 0 && slices.ContainsFunc(now, func(k api.GridLoad) bool { return low(k) && partOf(k.At) == partOf(l.At) })
	}); i >= 0 {
		return api.Cut{Kind: api.CutLow, Index: i, Value: volts[now[i].At]}, true
	}
	worst, most := -1, new(big.Rat)
	for i, f := range g.Feeds {
		if over := new(big.Rat).Sub(rat(feeds[i]), big.NewRat(int64(f.Limit), 1)); over.Cmp(most) > 0 {
			worst, most = i, over
		}
	}
	if worst >= 0 {
		return api.Cut{Kind: api.CutTrip, Index: worst, Value: feeds[worst]}, true
	}
	r.Volts, r.Feeds = volts, feeds
	return api.Cut{}, false
}

// TestSettleExamples is for P4.4.
func TestSettleExamples(t *testing.T) {
	g, s := example()
	s.Wires[1] = false
	load := []api.GridLoad{{At: 1, Units: 40}}
	low, trip := g, g
	low.Least = 570
	trip.Feeds = slices.Clone(g.Feeds)
	trip.Feeds[0].Limit = 39
	cut := func(kind api.CutKind, index, value int) api.Cut {
		return api.Cut{Kind: kind, Index: index, Value: api.Frac{Num: value, Den: 1}}
	}
	for i, c := range []struct {
		g     api.Grid
		feeds []bool
		loads []api.GridLoad
		cuts  []api.Cut
		volts []api.Frac
	}{
		{g, s.Feeds, load, nil, whole(580, 560, 600)},
		{low, s.Feeds, load, []api.Cut{cut(api.CutLow, 0, 560)}, whole(600, 600, 600)},
		{trip, s.Feeds, load, []api.Cut{cut(api.CutTrip, 0, 40), cut(api.CutDead, 0, 0)}, whole(0, 0, 600)},
		{g, s.Feeds, []api.GridLoad{{At: 2, Units: -5}}, []api.Cut{cut(api.CutReturn, 0, -5)}, whole(600, 600, 600)},
		{g, []bool{false, false}, []api.GridLoad{{At: 0, Units: 1}}, []api.Cut{cut(api.CutDead, 0, 0)}, whole(0, 0, 0)},
	} {
		r, e := current.Settle(c.g, api.GridState{Feeds: c.feeds, Wires: s.Wires}, c.loads)
		if e != api.OK || !slices.Equal(r.Cuts, c.cuts) || !slices.Equal(r.Volts, c.volts) {
			t.Error(i, r, e)
		}
	}
}

// same compares what two grids have come to; nil and empty lists are the same.
func same(a, b api.Settled) bool {
	return slices.Equal(a.Volts, b.Volts) && slices.Equal(a.Feeds, b.Feeds) && slices.Equal(a.State.Feeds, b.State.Feeds) && slices.Equal(a.State.Wires, b.State.Wires) && slices.Equal(a.Served, b.Served) && slices.Equal(a.Cuts, b.Cuts)
}

// TestSettle is for P4.4: cut by cut, and what holds afterward.
func TestSettle(t *testing.T) {
	kinds := map[api.CutKind]int{}
	for seed := range 1200 {
		g, s, loads := random(sample.New(seed))
		before := api.GridState{Feeds: slices.Clone(s.Feeds), Wires: slices.Clone(s.Wires)}
		r, e := current.Settle(g, s, loads)
		if want := settleOf(g, s, loads); e != api.OK || !same(r, want) {
			t.Fatal(seed, r, want, e)
		}
		if !reflect.DeepEqual(s, before) {
			t.Fatal(seed, "the state has changed")
		}
		var served []api.GridLoad
		for i, l := range loads {
			if r.Served[i] {
				served = append(served, l)
				if l.Units > 0 && rat(r.Volts[l.At]).Cmp(big.NewRat(int64(g.Least), 1)) < 0 {
					t.Fatal(seed, i, r)
				}
			}
		}
		for i, f := range g.Feeds {
			if rat(r.Feeds[i]).Cmp(big.NewRat(int64(f.Limit), 1)) > 0 {
				t.Fatal(seed, i, r)
			}
		}
		again, e := current.Settle(g, r.State, served)
		if e != api.OK || len(again.Cuts) > 0 || !slices.Equal(again.Volts, r.Volts) {
			t.Fatal(seed, again, e)
		}
		for _, c := range r.Cuts {
			kinds[c.Kind]++
		}
		if len(r.State.Feeds) > 0 {
			r.State.Feeds[0] = !r.State.Feeds[0]
			if !reflect.DeepEqual(s, before) {
				t.Fatal(seed, "the result shares memory with the state")
			}
		}
	}
	for k := api.CutDead; k <= api.CutTrip; k++ {
		if kinds[k] < 20 {
			t.Error("the samples are too simple:", kinds)
		}
	}
}

// TestRelief is for P4.5: the example, and the best plan of all.
func TestRelief(t *testing.T) {
	g, s := example()
	s.Wires[1] = false
	load := []api.GridLoad{{At: 1, Units: 40}}
	g.Feeds[0].Limit = 39
	if l, e := current.Relief(g, s, load); e != api.OK || !slices.Equal(l, []int{1}) {
		t.Error(l, e)
	}
	g.Feeds[0].Limit = 40
	if l, e := current.Relief(g, s, load); e != api.OK || len(l) != 0 {
		t.Error(l, e)
	}
	g.Least = 700
	if l, e := current.Relief(g, s, load); e != api.ErrNone || len(l) != 0 {
		t.Error(l, e)
	}
	sizes := map[int]int{}
	for seed := range 400 {
		r := sample.New(seed)
		g, s, loads := random(r)
		g.Least = min(g.Least, 500)
		for i := range g.Feeds {
			g.Feeds[i].Limit += 40
		}
		off := 0
		for i, w := range g.Wires {
			if w.Switch && r.Often(60) && off < 6 {
				s.Wires[i] = false
			}
			if !s.Wires[i] {
				off++
			}
		}
		got, e := current.Relief(g, s, loads)
		if off > 6 {
			if e != api.ErrArg || len(got) > 0 {
				t.Fatal(seed, got, e)
			}
			continue
		}
		best, found := bestRelief(g, s, loads)
		if found != (e == api.OK) || !found && e != api.ErrNone || !slices.Equal(got, best) {
			t.Fatal(seed, got, best, e)
		}
		if found {
			sizes[len(got)]++
		}
	}
	if sizes[0] == 0 || sizes[1] == 0 || sizes[2] == 0 {
		t.Error("the samples are too simple:", sizes)
	}
}

// bestRelief tries all plans of relief.
func bestRelief(g api.Grid, s api.GridState, loads []api.GridLoad) ([]int, bool) {
	var off, best []int
	found := false
	for i, on := range s.Wires {
		if !on {
			off = append(off, i)
		}
	}
	for set := range 1 << len(off) {
		var plan []int
		wires := slices.Clone(s.Wires)
		for i, x := range off {
			if set>>i&1 == 1 {
				plan = append(plan, x)
				wires[x] = true
			}
		}
		r, e := current.Settle(g, api.GridState{Feeds: s.Feeds, Wires: wires}, loads)
		if e == api.OK && len(r.Cuts) == 0 && (!found || len(plan) < len(best) || len(plan) == len(best) && slices.Compare(plan, best) < 0) {
			best, found = plan, true
		}
	}
	return best, found
}

// TestReliefLong is for P4.5: a part with too many nodes in the state itself is no error, but no plan helps.
func TestReliefLong(t *testing.T) {
	g, s := line(11)
	if l, e := current.Relief(g, s, nil); e != api.ErrNone || len(l) > 0 {
		t.Error(l, e)
	}
	s.Wires[9] = false // the last node alone is dead, and cannot be connected
	if l, e := current.Relief(g, s, nil); e != api.OK || len(l) > 0 {
		t.Error(l, e)
	}
	if l, e := current.Relief(g, s, []api.GridLoad{{At: 10, Units: 1}}); e != api.ErrNone || len(l) > 0 {
		t.Error(l, e)
	}
	for n, want := range map[int]api.Errno{6: api.OK, 7: api.ErrArg} {
		g, s := line(9)
		for i := range n {
			s.Wires[i] = false
		}
		if _, e := current.Relief(g, s, nil); e != want {
			t.Error(n, e)
		}
	}
}

// TestConsequences is for P4.6.
func TestConsequences(t *testing.T) {
	for seed := range 600 {
		r := sample.New(seed)
		g, s, loads := random(r)
		for i := range loads {
			loads[i].Units = max(loads[i].Units, 0)
		}
		volts, _, e := current.Solve(g, s, loads)
		if e != api.OK || len(loads) == 0 {
			continue
		}
		parts, _ := current.Parts(g, s)
		k := r.Below(len(loads))
		more := slices.Clone(loads)
		more[k].Units = min(more[k].Units+r.From(1, 5), 40)
		lower, _, e := current.Solve(g, s, more)
		if e != api.OK {
			continue // its part is not alive
		}
		for _, nodes := range parts {
			for _, node := range nodes {
				c := rat(lower[node]).Cmp(rat(volts[node]))
				if c > 0 || c != 0 && !slices.Contains(nodes, loads[k].At) {
					t.Fatal(seed, node, volts[node], lower[node])
				}
			}
		}
		idle, _, e := current.Solve(g, s, nil)
		if e != api.OK {
			t.Fatal(seed, e)
		}
		for _, nodes := range parts {
			top := 0
			for i, f := range g.Feeds {
				if s.Feeds[i] && slices.Contains(nodes, f.At) {
					top = max(top, f.Volts)
				}
			}
			for _, node := range nodes {
				if idle[node] != (api.Frac{Num: top, Den: 1}) {
					t.Fatal(seed, node, idle[node], top)
				}
			}
		}
	}
}
