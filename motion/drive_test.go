package motion_test

import (
	"math"
	"slices"
	"testing"

	"tramline/api"
	"tramline/motion"
	"tramline/sample"
	"tramline/track"
)

// straight returns the plan q of the examples.
func straight() api.Plan {
	p := sample.Lines([]api.Spot{{}, {X: 100000}})
	p.Rails[0].Limit = 8000
	return p
}

// TestDriveExamples is for P3.4.
func TestDriveExamples(t *testing.T) {
	p, way := straight(), []api.Move{{}}
	l, e := motion.Drive(p, way, train(), 0, []int{5000, 7000})
	want := api.Leg{Millis: 2500, At: 7000, Took: 3200, Gave: 725, Ledger: api.MotionLedger{Pull: 2880000000000, Brake: 2405000000000, Round: 475000000000}}
	if e != api.OK || !slices.Equal(l, []api.Leg{want}) {
		t.Error(l, e)
	}
	if n, e := motion.Run(p, way, train(), 0, []int{5000, 5900}); e != api.OK || !slices.Equal(n, []int{0}) {
		t.Error(n, e)
	}
	if n, e := motion.Run(p, way, train(), 0, []int{5000, 6000, 6001}); e != api.OK || len(n) != 2 || n[0] != 0 || n[1] == 0 {
		t.Error(n, e)
	}
}

// TestDriveArguments is for P3.4: stops, ways and plans that are not as defined.
func TestDriveArguments(t *testing.T) {
	p, way := straight(), []api.Move{{}}
	many := make([]int, 101)
	for i := range many {
		many[i] = 5000 + i
	}
	for _, c := range []struct {
		stops []int
		want  api.Errno
	}{
		{nil, api.ErrArg}, {[]int{5000}, api.ErrArg}, {[]int{5000, 5000}, api.ErrArg}, {[]int{6000, 5000}, api.ErrArg},
		{[]int{4999, 6000}, api.ErrArg}, {[]int{5000, 100000}, api.OK}, {[]int{5000, 100001}, api.ErrArg},
		{many[:100], api.OK}, {many, api.ErrArg}, {[]int{math.MinInt, math.MaxInt}, api.ErrArg}, {[]int{5000, 6000, 5500}, api.ErrArg},
	} {
		n, e := motion.Run(p, way, train(), 0, c.stops)
		l, e1 := motion.Drive(p, way, train(), 0, c.stops)
		if e != c.want || e1 != c.want || len(n) != len(l) || e == api.OK && len(n) != len(c.stops)-1 || e != api.OK && len(n) > 0 {
			t.Error(c, n, l, e, e1)
		}
	}
	broken := straight()
	broken.Rails[0].Limit = 0
	for i, c := range []struct {
		p     api.Plan
		way   []api.Move
		state int
	}{{broken, way, 0}, {p, nil, 0}, {p, []api.Move{{Rail: 1}}, 0}, {p, []api.Move{{}, {}}, 0}, {p, way, 2}, {p, way, -1}} {
		if n, e := motion.Run(c.p, c.way, train(), c.state, []int{5000, 7000}); len(n) > 0 || e != api.ErrArg {
			t.Error(i, n, e)
		}
	}
}

// ride is what a naive driver needs to know.
type ride struct {
	p     api.Plan
	way   []api.Move
	t     api.Train
	state int
}

// on returns the slope and the limit at a place.
func (d ride) on(place int) (int, int) {
	limit := d.t.Speed
	covers, _ := track.Covers(d.p, d.way, place, d.t.Length)
	for _, c := range covers {
		limit = min(limit, d.p.Rails[c.Rail].Limit)
	}
	begin, slope := 0, 0
	for _, m := range d.way {
		if place >= begin {
			slope = d.p.Rails[m.Rail].Slope
			if m.Back {
				slope = -slope
			}
		}
		length, _ := track.Length(d.p, m.Rail)
		begin += length
	}
	return slope, limit
}

func (d ride) place(x api.MotionState) int { return x.Way / (10 * d.t.Mass) }

func (d ride) safe(x api.MotionState, stop int) bool {
	for n := 0; n <= 36000; n++ {
		if d.place(x) > stop {
			return false
		}
		slope, limit := d.on(d.place(x))
		if x.Momentum/d.t.Mass > limit {
			return false
		}
		if x.Momentum == 0 {
			return true
		}
		next, possible := stepOf(d.t, x, -4, slope, d.state)
		if !possible {
			return false
		}
		x = next
	}
	return false
}

// drive returns the legs, as the document defines them.
func (d ride) drive(stops []int) ([]api.Leg, api.Errno) {
	x := api.MotionState{Way: 10 * d.t.Mass * stops[0]}
	var legs []api.Leg
	for _, stop := range stops[1:] {
		var l api.Leg
		for !(x.Momentum == 0 && d.place(x) >= stop-1000) {
			slope, _ := d.on(d.place(x))
			best := -5
			for demand := 4; demand >= -4 && best < -4; demand-- {
				if next, possible := stepOf(d.t, x, demand, slope, d.state); possible && d.safe(next, stop) {
					best = demand
				}
			}
			if best < -4 || l.Millis == 3600000 {
				return nil, api.ErrNone
			}
			took, gave, _ := motion.Powers(d.t, x, best, slope, d.state)
			next, ledger, _ := motion.Step(d.t, x, best, slope, d.state)
			if _, limit := d.on(d.place(next)); next.Momentum/d.t.Mass > limit || d.place(next) > stop {
				return nil, api.ErrState // breaks P3.4
			}
			if next == x {
				return nil, api.ErrNone
			}
			l.Millis += 100
			l.Took, l.Gave = max(l.Took, took), max(l.Gave, gave)
			l.Ledger.Pull += ledger.Pull
			l.Ledger.Brake += ledger.Brake
			l.Ledger.Drag += ledger.Drag
			l.Ledger.Hill += ledger.Hill
			l.Ledger.Round += ledger.Round
			l.Ledger.Hold += ledger.Hold
			x = next
		}
		l.At = d.place(x)
		legs = append(legs, l)
	}
	return legs, api.OK
}

// chain returns a plan of rails one after the other, with several limits and slopes, and the way over it, forward or backward.
func chain(r *sample.Rand, rails int) (api.Plan, []api.Move) {
	p := api.Plan{Nodes: []api.Node{{Kind: api.NodeEnd, Ends: []api.RailEnd{{}}}}}
	var way []api.Move
	x := 0
	for i := range rails {
		x += r.From(1, 3000) * r.From(1, 9)
		p.Nodes = append(p.Nodes, api.Node{Spot: api.Spot{X: x}, Kind: api.NodePlain, Ends: []api.RailEnd{{Rail: i, Last: true}, {Rail: i + 1}}})
		rail := api.Rail{From: i, To: i + 1, Limit: r.From(2, 12) * 1000, Slope: r.From(-30, 30)}
		p.Rails = append(p.Rails, rail)
		way = append(way, api.Move{Rail: i})
	}
	last := &p.Nodes[rails]
	last.Kind, last.Ends = api.NodeEnd, last.Ends[:1]
	if r.Often(50) {
		slices.Reverse(way)
		for i := range way {
			way[i].Back = true
		}
	}
	return p, way
}

// TestDrive is for P3.4 and P3.5: runs against a naive driver, and ledgers of legs that balance.
func TestDrive(t *testing.T) {
	seen := map[api.Errno]int{}
	for seed := range 60 {
		r := sample.New(seed)
		p, way := chain(r, r.From(1, 5))
		length, e := track.WayLength(p, way)
		if e != api.OK {
			t.Fatal(seed, e)
		}
		x := randomTrain(r)
		x.Brake = max(x.Brake, x.Mass) // otherwise it takes too long to try
		x.Length = r.From(1, max(1, length/2))
		stops := []int{r.From(x.Length, length)}
		for range 3 {
			if s := stops[len(stops)-1]; s < length {
				stops = append(stops, r.From(s+1, length))
			}
		}
		if len(stops) < 2 {
			continue
		}
		d := ride{p: p, way: way, t: x, state: r.Below(len(x.Grip))}
		want, e := d.drive(stops)
		got, e1 := motion.Drive(p, way, x, d.state, stops)
		if e1 != e || !slices.Equal(got, want) {
			t.Fatal(seed, got, want, e1, e)
		}
		for _, l := range got {
			if k := l.Ledger; k.Pull != k.Brake+k.Drag+k.Hill+k.Round+k.Hold {
				t.Fatal(seed, k)
			}
		}
		times, e2 := motion.Run(p, way, x, d.state, stops)
		if e2 != e || len(times) != len(want) {
			t.Fatal(seed, times, e2)
		}
		for i, n := range times {
			if n != want[i].Millis {
				t.Fatal(seed, times)
			}
		}
		seen[e]++
	}
	if seen[api.OK] < 10 || seen[api.ErrNone] == 0 {
		t.Error("the samples are too simple:", seen)
	}
}

// TestDriveBorders is for P3.4: trains that come exactly to borders of rails and to limits, against a naive driver.
func TestDriveBorders(t *testing.T) {
	for seed := range 60 {
		r := sample.New(seed)
		p, way := chain(r, r.From(2, 5))
		at := 0
		for i := range p.Rails {
			at += r.From(1, 30) * 100
			p.Nodes[i+1].Spot.X = at - seed%2
			p.Rails[i].Slope, p.Rails[i].Limit = 0, r.From(1, 6)*200+r.From(-1, 0)
		}
		x := train()
		x.Length = r.From(1, 8) * 100
		if at < x.Length+1100 {
			continue
		}
		stops := []int{x.Length, r.From(x.Length+1001, at-1)}
		d := ride{p: p, way: way, t: x}
		want, e := d.drive(stops)
		got, e1 := motion.Drive(p, way, x, 0, stops)
		if e1 != e || !slices.Equal(got, want) {
			t.Fatal(seed, got, want, e1, e)
		}
	}
}

// TestNoWayUp is for P3.4: legs that are not possible.
func TestNoWayUp(t *testing.T) {
	p, way := straight(), []api.Move{{}}
	p.Rails[0].Slope = 120 // 1177 newtons against a pull of 98
	if l, e := motion.Drive(p, way, train(), 1, []int{5000, 7000}); len(l) > 0 || e != api.ErrNone {
		t.Error(l, e)
	}
	// Downhill no brake holds the train: it cannot even stand.
	p.Rails[0].Slope = -120
	if l, e := motion.Drive(p, way, train(), 0, []int{5000, 7000}); len(l) > 0 || e != api.ErrNone {
		t.Error(l, e)
	}
	// The first leg is possible, the second one is not: there is none.
	q := api.Plan{
		Nodes: []api.Node{{Kind: api.NodeEnd, Ends: []api.RailEnd{{}}}, {Spot: api.Spot{X: 9000}, Kind: api.NodePlain, Ends: []api.RailEnd{{Last: true}, {Rail: 1}}}, {Spot: api.Spot{X: 20000}, Kind: api.NodeEnd, Ends: []api.RailEnd{{Rail: 1, Last: true}}}},
		Rails: []api.Rail{{To: 1, Limit: 8000}, {From: 1, To: 2, Limit: 8000, Slope: 120}},
	}
	if l, e := motion.Run(q, []api.Move{{}, {Rail: 1}}, train(), 1, []int{5000, 8000}); len(l) != 1 || e != api.OK {
		t.Error(l, e)
	}
	if l, e := motion.Run(q, []api.Move{{}, {Rail: 1}}, train(), 1, []int{5000, 8000, 15000}); len(l) > 0 || e != api.ErrNone {
		t.Error(l, e)
	}
}

// TestFarAway is for P3.4: places whose Way is out of range.
func TestFarAway(t *testing.T) {
	p := api.Plan{Nodes: []api.Node{{Kind: api.NodePlain, Ends: []api.RailEnd{{}, {Last: true}}}}, Rails: []api.Rail{{Limit: 8000}}}
	for i := range 30 {
		p.Rails[0].Shape = append(p.Rails[0].Shape, api.Spot{X: 1000000 * ((i + 1) % 2), Y: i})
	}
	x := train()
	x.Mass, x.Brake, x.Effort = 80000, 80000, 80000
	way := make([]api.Move, 2000)
	round, _ := track.Length(p, 0)
	for first, want := range map[int]api.Errno{10000000000000000/800000 - 10000: api.OK, 10000000000000000/800000 - 1500: api.ErrNone, 10000000000000000/800000 + 1: api.ErrNone} {
		if first+2000 > 2000*round {
			t.Fatal("the way is too short")
		}
		if n, e := motion.Run(p, way, x, 0, []int{first, first + 2000}); e != want {
			t.Error(first, n, e)
		}
	}
}

// TestLongLeg is for P3.4: how many steps a leg has at most.
func TestLongLeg(t *testing.T) {
	p, way := straight(), []api.Move{{}}
	x := train()
	x.Speed, x.Effort, x.Brake = 20, 4, 40 // about 20 millimeters a second: 3600 seconds are about 75 meters
	low, high := 5000+70000, 5000+80000
	for low+1 < high { // the last stop that is possible
		if _, e := motion.Run(p, way, x, 0, []int{5000, (low + high) / 2}); e == api.OK {
			low = (low + high) / 2
		} else {
			high = (low + high) / 2
		}
	}
	n, e := motion.Run(p, way, x, 0, []int{5000, low})
	if e != api.OK || n[0] > 3600000 || n[0] < 3599000 {
		t.Error(low, n, e)
	}
	if n, e := motion.Run(p, way, x, 0, []int{5000, high}); len(n) > 0 || e != api.ErrNone {
		t.Error(high, n, e)
	}
}
