package sample_test

import (
	"math"
	"reflect"
	"testing"

	"tramline/api"
	"tramline/control"
	"tramline/current"
	"tramline/depot"
	"tramline/duty"
	"tramline/lock"
	"tramline/motion"
	"tramline/sample"
	"tramline/service"
	"tramline/street"
	"tramline/sweep"
	"tramline/track"
)

// call is a function with arguments that are right; each build makes them anew.
type call struct {
	name  string
	f     any
	build func() []any
}

func grid() (api.Grid, api.GridState, []api.GridLoad) {
	g := api.Grid{
		Nodes: 3,
		Wires: []api.GridWire{{A: 0, B: 1, Siem: 2}, {A: 1, B: 2, Siem: 1, Switch: true}},
		Feeds: []api.GridFeed{{At: 0, Volts: 600, Siem: 2, Limit: 100}, {At: 2, Volts: 600, Siem: 1, Limit: 30}},
		Least: 500,
	}
	return g, api.GridState{Feeds: []bool{true, true}, Wires: []bool{true, true}}, []api.GridLoad{{At: 1, Units: 40}, {At: 2, Units: -3, Rank: 1}}
}

func junction() api.Junction {
	return api.Junction{
		Streams: []api.Stream{{Kind: api.StreamCar, Least: 5}, {Kind: api.StreamTraffic, Least: 8}, {Kind: api.StreamWalk, Least: 6}},
		Clears:  [][]int{{-1, 3, -1}, {4, -1, 2}, {-1, 7, -1}},
		Phases:  [][]int{{0, 2}, {1}},
		Longest: []int{20, 30},
		Skips:   1,
		Gates:   []api.Gate{{Move: api.Move{Rail: 2}}},
	}
}

func setup() api.LockSetup {
	return api.LockSetup{Plan: sample.Example(), Profiles: []api.Profile{{Half: 10}, {Half: 20, Swing: 5}}, Singles: []api.Single{{Moves: []api.Move{{Rail: 1}, {Rail: 2, Back: true}}}}}
}

func work() ([]api.Task, api.Yard, [][]int, api.WorkRules) {
	tasks := []api.Task{{From: 0, To: 1, Depart: 0, Arrive: 50}, {From: 0, To: 1, Depart: 20, Arrive: 80}, {From: 1, To: 0, Depart: 60, Arrive: 120}, {From: 1, To: 0, Depart: 100, Arrive: 150}, {From: 0, To: 1, Depart: 260, Arrive: 300}}
	y := api.Yard{Dead: [][]int{{0, 100}, {100, 0}}, Turn: 10, Relief: []bool{true, false}}
	return tasks, y, [][]int{{0, 2, 4}, {1, 3}}, api.WorkRules{Piece: 200, Span: 400, Work: 300, Break: 60, On: 10, Off: 10}
}

func night() ([]api.StableTrack, []api.StableCar, []api.StableLeave, api.StablePlan) {
	cars := []api.StableCar{{Kind: 1, Length: 10, Come: 1, Due: 900}, {Kind: 2, Length: 10, Come: 2, Due: 900}, {Kind: 1, Length: 10, Come: 3, Due: 900}}
	leaves := []api.StableLeave{{Kind: 1, Leave: 10}, {Kind: 1, Leave: 20}, {Kind: 2, Leave: 30}}
	return []api.StableTrack{{Length: 30}, {Length: 20, Through: true}}, cars, leaves, api.StablePlan{Tracks: []int{0, 0, 0}, Leaves: []int{1, 2, 0}}
}

func lowCalls() []call {
	p, on, slim := sample.Example, api.Move{}, api.Profile{Half: 100, Swing: 50}
	x := func() api.Train {
		t := sample.Tram()
		t.Length, t.Power = 500, 900000
		return t
	}
	way := func() []api.Move { return []api.Move{{}, {Rail: 2}} }
	cover := func() []api.Cover { return []api.Cover{{Rail: 0, To: 500}, {Rail: 2, From: 5, To: 9}} }
	return []call{
		{"track.Check", track.Check, func() []any { return []any{p()} }},
		{"track.Length", track.Length, func() []any { return []any{p(), 1} }},
		{"track.Line", track.Line, func() []any { return []any{p(), 2} }},
		{"track.Next", track.Next, func() []any { return []any{p(), on} }},
		{"track.Follows", track.Follows, func() []any { return []any{p(), on, api.Move{Rail: 2}} }},
		{"track.Between", track.Between, func() []any { return []any{p(), on, api.Move{Rail: 2}} }},
		{"track.WayLength", track.WayLength, func() []any { return []any{p(), way()} }},
		{"track.Settings", track.Settings, func() []any { return []any{p(), way()} }},
		{"track.Covers", track.Covers, func() []any { return []any{p(), way(), 1500, 800} }},
		{"track.Shortest", track.Shortest, func() []any { return []any{p(), on, api.Move{Rail: 2}} }},
		{"track.Distances", track.Distances, func() []any { return []any{p(), api.Move{Rail: 2}} }},
		{"track.Consistent", track.Consistent, func() []any { return []any{p(), api.Move{Rail: 2}, []int{1240, -1, -1, -1, 0, -1}} }},
		{"track.Ways", track.Ways, func() []any { return []any{p(), on, api.Move{Rail: 2}, 5} }},
		{"track.Endless", track.Endless, func() []any { return []any{p()} }},
		{"track.Turns", track.Turns, func() []any { return []any{p(), 0} }},
		{"sweep.Strips", sweep.Strips, func() []any { return []any{p(), 2} }},
		{"sweep.Place", sweep.Place, func() []any { return []any{p(), api.Strip{Rail: 2, Segment: 1}} }},
		{"sweep.Within", sweep.Within, func() []any { return []any{p(), api.Strip{}, api.Strip{Rail: 2, Segment: 1}, 600} }},
		{"sweep.Gap", sweep.Gap, func() []any { return []any{p(), api.Strip{}, api.Strip{Rail: 2, Segment: 1}} }},
		{"sweep.Foul", sweep.Foul, func() []any { return []any{p(), api.Strip{}, slim, api.Strip{Rail: 2, Segment: 1}, slim} }},
		{"sweep.Fouls", sweep.Fouls, func() []any { return []any{p(), []api.Profile{slim, {Half: 9}}} }},
		{"sweep.Witness", sweep.Witness, func() []any { return []any{p(), 0, 2} }},
		{"sweep.Zone", sweep.Zone, func() []any { return []any{p(), 0, slim, 2, slim} }},
		{"sweep.Clear", sweep.Clear, func() []any { return []any{p(), cover(), slim, cover(), slim} }},
		{"motion.Check", motion.Check, func() []any { return []any{x()} }},
		{"motion.Couple", motion.Couple, func() []any { return []any{x(), x()} }},
		{"motion.Step", motion.Step, func() []any { return []any{x(), api.MotionState{Momentum: 500000, Way: 9}, -4, 10, 0} }},
		{"motion.Powers", motion.Powers, func() []any { return []any{x(), api.MotionState{Momentum: 500000, Way: 9}, 4, 10, 0} }},
		{"motion.Braking", motion.Braking, func() []any { return []any{x(), api.MotionState{Momentum: 500000, Way: 9}, -10, 0} }},
		{"motion.Sight", motion.Sight, func() []any { return []any{x(), 10, 0, 500} }},
		{"motion.Drive", motion.Drive, func() []any { return []any{p(), way(), x(), 0, []int{500, 2100}} }},
		{"motion.Run", motion.Run, func() []any { return []any{p(), way(), x(), 0, []int{500, 2100}} }},
	}
}

func middleCalls() []call {
	four := func(f func(api.Grid, api.GridState, []api.GridLoad) []any) func() []any {
		return func() []any { g, s, l := grid(); return f(g, s, l) }
	}
	loaded := four(func(g api.Grid, s api.GridState, l []api.GridLoad) []any { return []any{g, s, l} })
	nine := func(f func([]api.StableTrack, []api.StableCar, []api.StableLeave, api.StablePlan) []any) func() []any {
		return func() []any { t, c, l, p := night(); return f(t, c, l, p) }
	}
	planned := nine(func(t []api.StableTrack, c []api.StableCar, l []api.StableLeave, p api.StablePlan) []any {
		return []any{t, c, l, p}
	})
	jobs := func() []api.WashJob {
		return []api.WashJob{{Until: 10, Seconds: 5}, {Until: 5, Seconds: 5}, {From: 20, Until: 30, Seconds: 5}}
	}
	return []call{
		{"current.Check", current.Check, func() []any { g, _, _ := grid(); return []any{g} }},
		{"current.Parts", current.Parts, func() []any { g, s, _ := grid(); return []any{g, s} }},
		{"current.Solve", current.Solve, loaded},
		{"current.Energies", current.Energies, loaded},
		{"current.Settle", current.Settle, loaded},
		{"current.Relief", current.Relief, loaded},
		{"current.Holds", current.Holds, four(func(g api.Grid, s api.GridState, l []api.GridLoad) []any {
			return []any{g, s, l, []api.Frac{{Num: 600, Den: 1}, {Num: 600, Den: 1}, {Num: 1205, Den: 2}}}
		})},
		{"lock.Check", lock.Check, func() []any { return []any{setup()} }},
		{"lock.Safe", lock.Safe, func() []any {
			return []any{setup(), []api.LockCar{{Name: 7, Way: []api.Move{{}, {Rail: 2}}, Front: 1}}, []int{0, 2, 0, 0}}
		}},
		{"street.Check", street.Check, func() []any { return []any{junction()} }},
		{"street.Right", street.Right, func() []any {
			return []any{junction(), api.Program{Cycle: 24, Begins: []int{12, 0, 10}, Lasts: []int{5, 8, 6}}}
		}},
		{"street.Bound", street.Bound, func() []any { return []any{junction()} }},
		{"street.Tour", street.Tour, func() []any { return []any{junction(), []int{1, 2}} }},
		{"street.Spread", street.Spread, func() []any { return []any{junction(), []int{1, 2}} }},
		{"depot.Assign", depot.Assign, func() []any { return []any{[]int{2, 0, 1, 3}, true} }},
		{"depot.Proves", depot.Proves, func() []any { return []any{[]int{2, 0, 1}, false, 2, []int{1, 2}} }},
		{"depot.Night", depot.Night, nine(func(t []api.StableTrack, c []api.StableCar, l []api.StableLeave, _ api.StablePlan) []any {
			return []any{t, c, l}
		})},
		{"depot.Moves", depot.Moves, planned},
		{"depot.Play", depot.Play, planned},
		{"depot.Tracks", depot.Tracks, func() []any { return []any{sample.Example(), []int{2, 0}} }},
		{"depot.Home", depot.Home, func() []any { t, y, c, _ := work(); return []any{t, y, c, []int{1, 2}, []int{10, 20}, 5000} }},
		{"depot.Wash", depot.Wash, func() []any { return []any{jobs()} }},
		{"depot.Late", depot.Late, func() []any { return []any{jobs(), []int{1, 0, 2}} }},
		{"duty.Check", duty.Check, func() []any { t, y, _, _ := work(); return []any{t, y} }},
		{"duty.Follows", duty.Follows, func() []any { t, y, _, _ := work(); return []any{t, y, 0, 2} }},
		{"duty.Cars", duty.Cars, func() []any { t, y, _, _ := work(); return []any{t, y} }},
		{"duty.Proves", duty.Proves, func() []any {
			t, y, _, _ := work()
			return []any{t, y, 2, api.DutyProof{First: []int{0, 1}, Second: []int{4}}}
		}},
		{"duty.Faults", duty.Faults, func() []any {
			t, y, c, w := work()
			return []any{t, y, c, w, api.Duty{Pieces: []api.DutyPiece{{Last: 1}, {First: 2, Last: 2}}}}
		}},
		{"duty.Duties", duty.Duties, func() []any { t, y, c, w := work(); return []any{t, y, c, w} }},
		{"duty.Bare", duty.Bare, func() []any { t, y, c, w := work(); return []any{t, y, c, w} }},
	}
}

func highCalls(t *testing.T) []call {
	t.Helper()
	line := func() api.Line {
		l, ok := sample.ExampleLine()
		if !ok {
			t.Fatal("there is no such line")
		}
		return l
	}
	known := line()
	lines := func() api.Line { // with lists of its own
		l := known
		for _, c := range []*api.Course{&l.Out, &l.Home} {
			c.Way, c.Stops, c.Dwells = append([]api.Move(nil), c.Way...), append([]int(nil), c.Stops...), append([]int(nil), c.Dwells...)
		}
		l.Train.Grip = []int{1000}
		return l
	}
	p := sample.Street
	s := func() api.Service {
		return api.Service{Lines: []api.Line{lines()}, Headways: []int{100}, Offsets: []int{0}}
	}
	works := func() []api.Works { return []api.Works{{From: 150, Until: 160}} }
	c := func() api.Connection { return api.Connection{FromStop: 2, ToHome: true, Most: 40} }
	d := func() api.Day {
		return api.Day{Plan: p(), Service: s(), Until: 700, Turnbacks: []api.Turnback{{Stop: 1, Back: 1, Seconds: 20}}}
	}
	late := func() []api.Delay { return []api.Delay{{Seconds: 100}, {Trip: 3, Stop: 1, Seconds: 5}} }
	cut := func() []api.CutShort { return []api.CutShort{{}, {Trip: 6}} }
	zones := func() api.Zones { return api.Zones{Stops: []int{1, 1, 2, 1, 1, 1}} }
	tickets := func() []api.Ticket {
		return []api.Ticket{{Count: 1, Minutes: 60, Price: 20}, {Zones: 3, Minutes: 60, Price: 30}}
	}
	rides := func() []api.Ride { return []api.Ride{{To: 2}, {Trip: 4, From: 1, To: 2}} }
	return []call{
		{"service.Check", service.Check, func() []any { return []any{p(), s()} }},
		{"service.Offsets", service.Offsets, func() []any { return []any{p(), lines(), true} }},
		{"service.Round", service.Round, func() []any { return []any{p(), lines()} }},
		{"service.Cars", service.Cars, func() []any { return []any{p(), lines(), 100} }},
		{"service.Trips", service.Trips, func() []any { return []any{p(), s(), works(), 0, 700} }},
		{"service.Last", service.Last, func() []any { return []any{p(), s(), works(), 0, true, 700} }},
		{"service.Wait", service.Wait, func() []any { return []any{p(), s(), c()} }},
		{"service.Keeps", service.Keeps, func() []any { return []any{p(), s(), []api.Connection{c()}} }},
		{"service.Connect", service.Connect, func() []any { return []any{p(), []api.Line{lines()}, 100, []api.Connection{c()}} }},
		{"service.Slot", service.Slot, func() []any { return []any{p(), s(), 0, false, 5, 110, 20} }},
		{"service.Free", service.Free, func() []any { return []any{p(), s(), 0, false, 45, 110, 20} }},
		{"duty.Tasks", duty.Tasks, func() []any { return []any{p(), s(), []api.Trip{{}, {Home: true, Depart: 50}}} }},
		{"control.Check", control.Check, func() []any { return []any{d()} }},
		{"control.Trips", control.Trips, func() []any { return []any{d()} }},
		{"control.Uses", control.Uses, func() []any { return []any{d(), 3} }},
		{"control.Meetings", control.Meetings, func() []any { return []any{d(), []api.Profile{{Half: 5}}} }},
		{"control.Times", control.Times, func() []any { return []any{d(), late(), cut()} }},
		{"control.Moment", control.Moment, func() []any { return []any{d(), late()} }},
		{"control.Kept", control.Kept, func() []any { return []any{d(), late(), cut(), 500} }},
		{"control.Right", control.Right, func() []any { return []any{d(), late(), 451} }},
		{"control.CutStops", control.CutStops, func() []any { return []any{d(), cut()} }},
		{"control.Signs", control.Signs, func() []any { return []any{d(), late(), cut(), 0, true, 0, 150} }},
		{"control.Fare", control.Fare, func() []any { return []any{d(), zones(), tickets(), rides()} }},
		{"control.Covers", control.Covers, func() []any { return []any{d(), zones(), tickets()[0], rides()} }},
	}
}

// spoil changes something in a value: a number, a truth, or a list.
func spoil(r *sample.Rand, v reflect.Value) {
	switch v.Kind() {
	case reflect.Int:
		n := v.Int()
		v.SetInt([]int64{math.MinInt64, math.MaxInt64, -1, 0, 1, 2, n - 1, n + 1, 2 * n, -n, 1 << 32, 1000001, 200001}[r.Below(13)])
	case reflect.Bool:
		v.SetBool(!v.Bool())
	case reflect.Struct:
		spoil(r, v.Field(r.Below(v.NumField())))
	case reflect.Slice:
		n := v.Len()
		switch {
		case r.Often(10):
			v.SetZero()
		case r.Often(10) && n > 0:
			v.Set(v.Slice(0, n-1))
		case r.Often(10) && n > 0:
			v.Set(reflect.Append(v, v.Index(r.Below(n))))
		case r.Often(10):
			v.Set(reflect.Append(v, reflect.Zero(v.Type().Elem())))
		case n > 0:
			spoil(r, v.Index(r.Below(n)))
		}
	}
}

// empty reports whether a result is a zero value; lists may be empty.
func empty(v reflect.Value) bool {
	return v.IsZero() || v.Kind() == reflect.Slice && v.Len() == 0
}

// invoke calls a function with spoiled arguments, and reports whether it took them.
func invoke(t *testing.T, r *sample.Rand, c call, times int) bool {
	t.Helper()
	var in []reflect.Value
	for _, x := range c.build() {
		v := reflect.New(reflect.TypeOf(x)).Elem()
		v.Set(reflect.ValueOf(x))
		in = append(in, v)
	}
	for range times {
		spoil(r, in[r.Below(len(in))])
	}
	defer func() {
		if x := recover(); x != nil {
			t.Errorf("%s panics: %v; %v", c.name, x, in)
		}
	}()
	results := reflect.ValueOf(c.f).Call(in)
	took := true
	for i, v := range results {
		e, is := v.Interface().(api.Errno)
		if !is || e == api.OK {
			continue
		}
		took = false
		for _, other := range results[:i] {
			if !empty(other) {
				t.Errorf("%s: with the error %d there is %v", c.name, e, other)
			}
		}
	}
	return took
}

// TestTotal is for P0.1: all functions of all layers, with arguments that are not as they should be.
func TestTotal(t *testing.T) {
	r := sample.New(1)
	try := func(calls []call, rounds int) {
		for _, c := range calls {
			if !invoke(t, r, c, 0) {
				t.Error(c.name, "refuses what is right")
			}
			for i := range rounds {
				invoke(t, r, c, 1+i%4)
			}
		}
	}
	try(lowCalls(), 400)
	try(middleCalls(), 400)
	try(highCalls(t), 60)
}

// TestTotalObjects is for P0.1: locks and signals, whatever they are told.
func TestTotalObjects(t *testing.T) {
	r := sample.New(2)
	l, e := lock.New(setup())
	s, e1 := street.Open(junction())
	if e != api.OK || e1 != api.OK {
		t.Fatal(e, e1)
	}
	way := func() []any {
		return []any{r.From(1, 3), r.Below(2), []api.Move{{Rail: r.Below(3), Back: r.Often(50)}}}
	}
	move := func() []any { return []any{r.From(1, 3), api.Move{Rail: r.Below(3), Back: r.Often(50)}} }
	name := func() []any { return []any{r.From(1, 3)} }
	wishes := func() []any { return []any{[]api.Wish{{Name: 1, Moves: []api.Move{{Rail: 1}}}, {Name: 2, Exit: true}}} }
	calls := []call{
		{"Enter", l.Enter, way}, {"Ask", l.Ask, move}, {"Go", l.Go, name}, {"Leave", l.Leave, name}, {"Yield", l.Yield, name}, {"Turn", l.Turn, name}, {"Remove", l.Remove, name},
		{"Cars", l.Cars, func() []any { return nil }}, {"Points", l.Points, func() []any { return nil }}, {"Holders", l.Holders, name}, {"Order", l.Order, wishes},
		{"Completes", l.Completes, func() []any { return append(wishes(), []int{1, 2}) }},
		{"Tick", s.Tick, func() []any { return []any{[]int{0, 1}, []int{0}} }}, {"Lights", s.Lights, func() []any { return nil }}, {"Second", s.Second, func() []any { return nil }}, {"Phase", s.Phase, func() []any { return nil }},
		{"street.Ask", func(name int, m api.Move) (api.Refusal, api.Errno) { return street.Ask(s, l, name, m) }, move},
	}
	for i := range 6000 {
		c := calls[r.Below(len(calls))]
		times := i % 3
		if len(c.build()) == 0 {
			times = 0
		}
		before := l.Cars()
		points := l.Points()
		busy := c.name == "Enter" || c.name == "Ask" || c.name == "Turn" || c.name == "street.Ask" // they may return a refusal with an error
		if !busy {
			if took := invoke(t, r, c, times); !took && (!reflect.DeepEqual(before, l.Cars()) || !reflect.DeepEqual(points, l.Points())) {
				t.Fatal(c.name, "an error has changed something")
			}
		} else {
			in := c.build()
			reflect.ValueOf(c.f).Call(values(r, in, times))
		}
		if !lock.Safe(setup(), l.Cars(), l.Points()) {
			t.Fatal(c.name, l.Cars(), l.Points())
		}
	}
}

// values returns spoiled arguments.
func values(r *sample.Rand, args []any, times int) []reflect.Value {
	var in []reflect.Value
	for _, x := range args {
		v := reflect.New(reflect.TypeOf(x)).Elem()
		v.Set(reflect.ValueOf(x))
		in = append(in, v)
	}
	for range times {
		spoil(r, in[r.Below(len(in))])
	}
	return in
}
