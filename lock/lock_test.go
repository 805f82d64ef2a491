package lock_test

import (
	"math"
	"reflect"
	"slices"
	"testing"

	"tramline/api"
	"tramline/lock"
	"tramline/sample"
	"tramline/sweep"
	"tramline/track"
)

func on(rail int) api.Move   { return api.Move{Rail: rail} }
func back(rail int) api.Move { return api.Move{Rail: rail, Back: true} }

// example returns the setup of the chapter's examples.
func example() api.LockSetup {
	return api.LockSetup{Plan: sample.Example(), Profiles: []api.Profile{{Half: 10}}}
}

func open(t *testing.T, s api.LockSetup) *lock.Lock {
	t.Helper()
	l, e := lock.New(s)
	if e != api.OK || l == nil {
		t.Fatal(e)
	}
	return l
}

// chain returns a plan of so many rails one after the other, each 100 millimeters long.
func chain(rails int) api.Plan {
	p := api.Plan{}
	for i := range rails + 1 {
		n := api.Node{Spot: api.Spot{X: 100 * i}, Kind: api.NodePlain, Ends: []api.RailEnd{{Rail: i - 1, Last: true}, {Rail: i}}}
		if i == 0 {
			n.Kind, n.Ends = api.NodeEnd, n.Ends[1:]
		}
		if i == rails {
			n.Kind, n.Ends = api.NodeEnd, n.Ends[:1]
		}
		p.Nodes = append(p.Nodes, n)
		if i < rails {
			p.Rails = append(p.Rails, api.Rail{From: i, To: i + 1, Limit: 1000})
		}
	}
	return p
}

// setup returns a setup that looks random, with singles.
func setup(seed int) api.LockSetup {
	r := sample.New(seed)
	s := api.LockSetup{Plan: sample.Plan(r, 2+seed%9, 40000)}
	for range r.From(1, 3) {
		s.Profiles = append(s.Profiles, api.Profile{Half: r.From(1, 500), Swing: r.From(0, 200)})
	}
	rails := r.From(0, len(s.Plan.Rails))
	for next := 0; next < rails; {
		var single api.Single
		for range r.From(1, 4) {
			if next < rails {
				single.Moves = append(single.Moves, api.Move{Rail: next, Back: r.Often(50)})
			}
			next++
		}
		s.Singles = append(s.Singles, single)
	}
	if len(s.Singles) > api.MaxSingles {
		s.Singles = s.Singles[:api.MaxSingles]
	}
	return s
}

// TestCheck is for P5.1: setups that are as defined, and others.
func TestCheck(t *testing.T) {
	single := func(m ...api.Move) api.Single { return api.Single{Moves: m} }
	for name, c := range map[string]struct {
		do   func(s *api.LockSetup)
		want api.Errno
	}{
		"as it is":              {func(s *api.LockSetup) {}, api.OK},
		"broken plan":           {func(s *api.LockSetup) { s.Plan.Rails[0].Limit = 0 }, api.ErrArg},
		"no plan":               {func(s *api.LockSetup) { s.Plan = api.Plan{} }, api.ErrArg},
		"no profiles":           {func(s *api.LockSetup) { s.Profiles = nil }, api.ErrArg},
		"6 profiles":            {func(s *api.LockSetup) { s.Profiles = slices.Repeat(s.Profiles, 6) }, api.OK},
		"7 profiles":            {func(s *api.LockSetup) { s.Profiles = slices.Repeat(s.Profiles, 7) }, api.ErrArg},
		"broken profile":        {func(s *api.LockSetup) { s.Profiles = append(s.Profiles, api.Profile{Half: 1, Swing: 1501}) }, api.ErrArg},
		"a single":              {func(s *api.LockSetup) { s.Singles = []api.Single{single(on(0), back(2))} }, api.OK},
		"an empty single":       {func(s *api.LockSetup) { s.Singles = []api.Single{single()} }, api.ErrArg},
		"a rail twice":          {func(s *api.LockSetup) { s.Singles = []api.Single{single(on(0), back(0))} }, api.ErrArg},
		"a rail in two singles": {func(s *api.LockSetup) { s.Singles = []api.Single{single(on(0)), single(on(1), on(0))} }, api.ErrArg},
		"a rail of nowhere":     {func(s *api.LockSetup) { s.Singles = []api.Single{single(on(3))} }, api.ErrArg},
		"a rail -1":             {func(s *api.LockSetup) { s.Singles = []api.Single{single(back(-1))} }, api.ErrArg},
		"30 singles":            {func(s *api.LockSetup) { manySingles(s, 30, 1) }, api.OK},
		"31 singles":            {func(s *api.LockSetup) { manySingles(s, 31, 1) }, api.ErrArg},
		"a single of 100":       {func(s *api.LockSetup) { manySingles(s, 1, 100) }, api.OK},
		"a single of 101":       {func(s *api.LockSetup) { manySingles(s, 1, 101) }, api.ErrArg},
	} {
		s := example()
		c.do(&s)
		l, e1 := lock.New(s)
		if e := lock.Check(s); e != c.want || e1 != c.want || (l == nil) != (e != api.OK) {
			t.Error(name, e, e1, l)
		}
		if c.want != api.OK && lock.Safe(s, nil, []int{0, 1, 0, 0}) {
			t.Error(name, "is safe")
		}
	}
}

func manySingles(s *api.LockSetup, singles, moves int) {
	s.Plan = chain(singles * moves)
	for i := range singles {
		var single api.Single
		for k := range moves {
			single.Moves = append(single.Moves, on(i*moves+k))
		}
		s.Singles = append(s.Singles, single)
	}
}

// TestSafe is for P5.1: each condition, and whatever is not as defined.
func TestSafe(t *testing.T) {
	car := func(name int, way ...api.Move) api.LockCar { return api.LockCar{Name: name, Way: way} }
	s := example()
	far := example()
	far.Plan = sample.Lines([]api.Spot{{}, {X: 1000}}, []api.Spot{{Y: 30}, {X: 1000, Y: 30}})
	far.Profiles = []api.Profile{{Half: 10}, {Half: 20}}
	one := api.LockSetup{Plan: chain(9), Profiles: s.Profiles, Singles: []api.Single{{Moves: []api.Move{on(0), on(1), back(7), on(8)}}}}
	for i, c := range []struct {
		s      api.LockSetup
		cars   []api.LockCar
		points []int
		want   bool
	}{
		{s, nil, []int{0, 1, 0, 0}, true},
		{s, nil, []int{0, 2, 0, 0}, true},
		{s, nil, []int{0, 0, 0, 0}, false},
		{s, nil, []int{0, 3, 0, 0}, false},
		{s, nil, []int{1, 1, 0, 0}, false},
		{s, nil, []int{0, 1, 0}, false},
		{s, []api.LockCar{car(1, on(0))}, []int{0, 1, 0, 0}, true},
		{s, []api.LockCar{car(1, on(0), on(2))}, []int{0, 2, 0, 0}, true},
		{s, []api.LockCar{car(1, on(0), on(2))}, []int{0, 1, 0, 0}, false},
		{s, []api.LockCar{car(1, back(1), back(0))}, []int{0, 1, 0, 0}, true},
		{s, []api.LockCar{car(1, back(1), back(0))}, []int{0, 2, 0, 0}, false},
		{s, []api.LockCar{car(1, on(0)), car(2, on(0))}, []int{0, 1, 0, 0}, false},
		{s, []api.LockCar{car(1, on(1)), car(2, on(2))}, []int{0, 1, 0, 0}, false},
		{s, []api.LockCar{car(1, on(0)), car(1, on(1))}, []int{0, 1, 0, 0}, false},
		{s, []api.LockCar{car(0, on(0))}, []int{0, 1, 0, 0}, false},
		{s, []api.LockCar{car(1000000, on(0))}, []int{0, 1, 0, 0}, true},
		{s, []api.LockCar{car(1000001, on(0))}, []int{0, 1, 0, 0}, false},
		{s, []api.LockCar{car(1)}, []int{0, 1, 0, 0}, false},
		{s, []api.LockCar{car(1, on(3))}, []int{0, 1, 0, 0}, false},
		{s, []api.LockCar{car(1, on(0), back(1))}, []int{0, 1, 0, 0}, false},
		{s, []api.LockCar{{Name: 1, Profile: 1, Way: []api.Move{on(0)}}}, []int{0, 1, 0, 0}, false},
		{s, []api.LockCar{{Name: 1, Profile: -1, Way: []api.Move{on(0)}}}, []int{0, 1, 0, 0}, false},
		{s, []api.LockCar{{Name: 1, Way: []api.Move{on(0)}, Front: 1}}, []int{0, 1, 0, 0}, false},
		{s, []api.LockCar{{Name: 1, Way: []api.Move{on(0)}, Front: -1}}, []int{0, 1, 0, 0}, false},
		{far, []api.LockCar{car(1, on(0)), {Name: 2, Profile: 0, Way: []api.Move{on(1)}}}, []int{0, 0, 0, 0}, true},
		{far, []api.LockCar{car(1, on(0)), {Name: 2, Profile: 1, Way: []api.Move{on(1)}}}, []int{0, 0, 0, 0}, false},
		{one, []api.LockCar{car(1, on(0)), car(2, on(8))}, make([]int, 10), true},
		{one, []api.LockCar{car(1, on(0)), car(2, on(7))}, make([]int, 10), false},
		{one, []api.LockCar{car(1, on(0)), car(2, back(7))}, make([]int, 10), true},
		{one, []api.LockCar{car(1, back(0)), car(2, on(8))}, make([]int, 10), false},
		{one, []api.LockCar{car(1, on(7), on(8))}, make([]int, 10), true}, // one car alone may hold both directions
	} {
		if is := lock.Safe(c.s, c.cars, c.points); is != c.want {
			t.Error(i, is)
		}
	}
	var many []api.LockCar
	p := api.LockSetup{Plan: chain(299), Profiles: s.Profiles}
	for i := range 101 {
		many = append(many, car(i+1, on(2*i)))
	}
	if !lock.Safe(p, many[:100], make([]int, 300)) || lock.Safe(p, many, make([]int, 300)) {
		t.Error("100 cars are allowed, 101 are not")
	}
}

// TestExample is for P5.2 and P5.4: the chapter's examples.
func TestExample(t *testing.T) {
	l := open(t, example())
	check := func(step string, r api.Refusal, e api.Errno, want api.Refusal, err api.Errno) {
		t.Helper()
		if r != want || e != err {
			t.Error(step, r, e)
		}
	}
	r, e := l.Enter(7, 0, []api.Move{on(0)})
	check("enter 7", r, e, api.Refusal{}, api.OK)
	r, e = l.Enter(8, 0, []api.Move{back(1)})
	check("enter 8", r, e, api.Refusal{Kind: api.RefusalFoul, Car: 7}, api.ErrBusy)
	r, e = l.Ask(7, on(2))
	check("ask", r, e, api.Refusal{}, api.OK)
	if !slices.Equal(l.Points(), []int{0, 2, 0, 0}) {
		t.Error(l.Points())
	}
	r, e = l.Ask(7, on(1))
	check("ask again", r, e, api.Refusal{Kind: api.RefusalEnd}, api.ErrRule)
	if e0, e1, e2 := l.Go(7), l.Leave(7), l.Leave(7); e0 != api.OK || e1 != api.OK || e2 != api.ErrState {
		t.Error(e0, e1, e2)
	}
	r, e = l.Turn(7)
	check("turn", r, e, api.Refusal{}, api.OK)
	r, e = l.Ask(7, back(0))
	check("ask back", r, e, api.Refusal{}, api.OK)
	if cars := l.Cars(); !reflect.DeepEqual(cars, []api.LockCar{{Name: 7, Way: []api.Move{back(2), back(0)}}}) {
		t.Error(cars)
	}
}

// TestNil is for P5.2 to P5.5: a nil lock, and a zero one.
func TestNil(t *testing.T) {
	for _, l := range []*lock.Lock{nil, {}} {
		_, e0 := l.Enter(1, 0, []api.Move{on(0)})
		_, e1 := l.Ask(1, on(0))
		_, e2 := l.Turn(1)
		_, e3 := l.Holders(0)
		_, e4 := l.Order(nil)
		_, e5 := l.Completes(nil, nil)
		for i, e := range []api.Errno{e0, e1, e2, e3, e4, e5, l.Go(1), l.Leave(1), l.Yield(1), l.Remove(1)} {
			if e != api.ErrNil {
				t.Error(i, e)
			}
		}
		if len(l.Cars()) > 0 || len(l.Points()) > 0 {
			t.Error(l.Cars(), l.Points())
		}
	}
}

// TestArguments is for P5.2 to P5.4: what is not as defined, before what does not exist.
func TestArguments(t *testing.T) {
	s := example()
	l := open(t, s)
	s.Plan.Rails[0].To = 3 // the lock does not keep what it was given
	s.Profiles[0].Half = -1
	s.Plan.Nodes[1].Ends[0].Rail = 2
	for _, c := range []struct {
		name, profile int
		way           []api.Move
	}{{0, 0, []api.Move{on(0)}}, {1000001, 0, []api.Move{on(0)}}, {math.MinInt, 0, []api.Move{on(0)}}, {1, 1, []api.Move{on(0)}}, {1, -1, []api.Move{on(0)}}, {1, 0, nil}, {1, 0, []api.Move{on(3)}}, {1, 0, []api.Move{on(-1)}}, {1, 0, []api.Move{on(0), back(1)}}, {1, 0, []api.Move{on(0), on(0)}}} {
		if r, e := l.Enter(c.name, c.profile, c.way); r != (api.Refusal{}) || e != api.ErrArg {
			t.Error(c, r, e)
		}
	}
	if r, e := l.Enter(1, 0, []api.Move{on(0)}); r != (api.Refusal{}) || e != api.OK {
		t.Error(r, e)
	}
	if r, e := l.Enter(1, 0, []api.Move{on(1)}); r != (api.Refusal{}) || e != api.ErrState {
		t.Error(r, e)
	}
	for _, c := range []struct {
		name int
		m    api.Move
		want api.Errno
	}{{1, on(3), api.ErrArg}, {1, on(-1), api.ErrArg}, {2, on(3), api.ErrArg}, {0, on(1), api.ErrArg}, {2, on(1), api.ErrNone}, {1, on(1), api.OK}} {
		if r, e := l.Ask(c.name, c.m); r != (api.Refusal{}) || e != c.want {
			t.Error(c, r, e)
		}
	}
	for name, want := range map[int]api.Errno{0: api.ErrArg, 1000001: api.ErrArg, -5: api.ErrArg, 2: api.ErrNone} {
		_, e := l.Turn(name)
		if l.Go(name) != want || l.Leave(name) != want || l.Yield(name) != want || l.Remove(name) != want || e != want {
			t.Error(name, e)
		}
	}
	if l.Leave(1) != api.ErrState {
		t.Error("the front is on the first move")
	}
	if r, e := l.Turn(1); r != (api.Refusal{}) || e != api.ErrState {
		t.Error(r, e)
	}
	if l.Go(1) != api.OK || l.Go(1) != api.ErrState {
		t.Error("there is one move to go to")
	}
	for _, rail := range []int{-1, 3} {
		if h, e := l.Holders(rail); len(h) > 0 || e != api.ErrArg {
			t.Error(rail, h, e)
		}
	}
	if h, e := l.Holders(0); !slices.Equal(h, []int{1}) || e != api.OK {
		t.Error(h, e)
	}
	l.Cars()[0].Way[0] = on(2)
	l.Points()[1] = 9
	if h, _ := l.Holders(0); len(h) != 1 || l.Points()[1] != 1 {
		t.Error("results share memory with the lock")
	}
}

// TestMany is for P5.2: how many cars there are, and how many moves a car holds.
func TestMany(t *testing.T) {
	l := open(t, api.LockSetup{Plan: chain(299), Profiles: []api.Profile{{Half: 10}}})
	for i := range 100 {
		if r, e := l.Enter(200-i, 0, []api.Move{on(2 * i)}); e != api.OK {
			t.Fatal(i, r, e)
		}
	}
	if r, e := l.Enter(500, 0, []api.Move{on(250)}); r != (api.Refusal{}) || e != api.ErrLong {
		t.Error(r, e)
	}
	if r, e := l.Enter(150, 0, []api.Move{on(250)}); r != (api.Refusal{}) || e != api.ErrState {
		t.Error(r, e)
	}
	for i, c := range l.Cars() {
		if c.Name != 101+i {
			t.Fatal(i, c)
		}
	}
	if l.Remove(101) != api.OK {
		t.Error("remove")
	}
	var way []api.Move
	for i := range 20 {
		way = append(way, on(250+i))
	}
	if r, e := l.Enter(500, 0, append(way, on(270))); r != (api.Refusal{}) || e != api.ErrArg {
		t.Error(r, e)
	}
	if r, e := l.Enter(500, 0, way); e != api.OK {
		t.Error(r, e)
	}
	if r, e := l.Ask(500, on(270)); r != (api.Refusal{Kind: api.RefusalLong}) || e != api.ErrBusy {
		t.Error(r, e)
	}
	if e := l.Leave(500); e != api.OK {
		t.Error(e)
	}
	if r, e := l.Ask(500, on(270)); e != api.OK {
		t.Error(r, e)
	}
}

// TestRefusals is for P5.2: each reason, and who it is.
func TestRefusals(t *testing.T) {
	s := api.LockSetup{Plan: chain(9), Profiles: []api.Profile{{Half: 10}}, Singles: []api.Single{{Moves: []api.Move{on(1), on(2), on(3), on(4), on(5), on(6), on(7)}}}}
	l := open(t, s)
	l.Enter(9, 0, []api.Move{back(7)})
	l.Enter(5, 0, []api.Move{on(0)})
	if r, e := l.Ask(5, on(1)); r != (api.Refusal{Kind: api.RefusalSingle, Car: 9}) || e != api.ErrBusy {
		t.Error(r, e)
	}
	if r, e := l.Enter(4, 0, []api.Move{back(5), back(4)}); e != api.OK {
		t.Error(r, e)
	}
	if r, e := l.Ask(5, on(1)); r != (api.Refusal{Kind: api.RefusalSingle, Car: 4}) || e != api.ErrBusy {
		t.Error(r, e)
	}
	if r, e := l.Enter(3, 0, []api.Move{on(2)}); r != (api.Refusal{Kind: api.RefusalSingle, Car: 4}) || e != api.ErrBusy {
		t.Error(r, e)
	}
	if r, e := l.Enter(3, 0, []api.Move{back(6)}); r != (api.Refusal{Kind: api.RefusalFoul, Car: 4}) || e != api.ErrBusy {
		t.Error(r, e)
	}
	if r, e := l.Turn(9); r != (api.Refusal{Kind: api.RefusalSingle, Car: 4}) || e != api.ErrBusy {
		t.Error(r, e)
	}
	if r, e := l.Turn(5); e != api.OK {
		t.Error(r, e)
	}
	if r, e := l.Ask(4, back(3)); e != api.OK {
		t.Error(r, e)
	}
	if r, e := l.Turn(4); r != (api.Refusal{}) || e != api.ErrState {
		t.Error(r, e)
	}
	if l.Yield(4) != api.OK || len(l.Cars()[0].Way) != 2 {
		t.Error("yield")
	}
	// A ring: the car comes back to its own rear.
	ring := api.LockSetup{Plan: api.Plan{Nodes: []api.Node{{Kind: api.NodePlain, Ends: []api.RailEnd{{}, {Last: true}}}}, Rails: []api.Rail{{Shape: []api.Spot{{X: 500}, {X: 500, Y: 500}}, Limit: 1}}}, Profiles: s.Profiles}
	m := open(t, ring)
	m.Enter(1, 0, []api.Move{on(0)})
	if r, e := m.Ask(1, on(0)); r != (api.Refusal{Kind: api.RefusalOwn}) || e != api.ErrBusy {
		t.Error(r, e)
	}
	// A spring lets the car come, but not go back.
	spring := example()
	spring.Plan.Nodes[1].Kind, spring.Plan.Nodes[1].Normal = api.NodeSpring, 1
	k := open(t, spring)
	k.Enter(1, 0, []api.Move{back(2), back(0)})
	if r, e := k.Turn(1); r != (api.Refusal{}) || e != api.ErrRule {
		t.Error(r, e)
	}
}

// TestPoints is for P5.2 and P5.4: points that a car holds do not move, and who wants them is refused.
func TestPoints(t *testing.T) {
	// With rails that meet at points, cars always foul each other first; the car itself cannot hold both legs, either. So points are the reason only together with a foul, which comes before.
	l := open(t, example())
	l.Enter(3, 0, []api.Move{on(0), on(2)})
	if r, e := l.Enter(2, 0, []api.Move{on(1)}); r != (api.Refusal{Kind: api.RefusalFoul, Car: 3}) || e != api.ErrBusy || l.Points()[1] != 2 {
		t.Error(r, e, l.Points())
	}
	// A car that is refused at its second move leaves the points as they were.
	p := api.LockSetup{Plan: twoPoints(), Profiles: []api.Profile{{Half: 1}}}
	m := open(t, p)
	m.Enter(1, 0, []api.Move{on(4)})
	if r, e := m.Enter(2, 0, []api.Move{on(0), on(2), on(3), on(5)}); r != (api.Refusal{Kind: api.RefusalFoul, Car: 1}) || e != api.ErrBusy || !slices.Equal(m.Points(), []int{0, 1, 0, 0, 1, 0, 0}) || len(m.Cars()) != 1 {
		t.Error(r, e, m.Points(), m.Cars())
	}
	if e := m.Remove(1); e != api.OK {
		t.Error(e)
	}
	if r, e := m.Enter(2, 0, []api.Move{on(0), on(2), on(3), on(5)}); e != api.OK || !slices.Equal(m.Points(), []int{0, 2, 0, 0, 2, 0, 0}) {
		t.Error(r, e, m.Points())
	}
}

// twoPoints returns a plan with points at 1000, 0, whose right leg leads on to points at 3000, 0.
func twoPoints() api.Plan {
	end := func(x, y, rail int, last bool) api.Node {
		return api.Node{Spot: api.Spot{X: x, Y: y}, Kind: api.NodeEnd, Ends: []api.RailEnd{{Rail: rail, Last: last}}}
	}
	return api.Plan{
		Nodes: []api.Node{
			end(0, 0, 0, false),
			{Spot: api.Spot{X: 1000}, Kind: api.NodeSet, Ends: []api.RailEnd{{Last: true}, {Rail: 1}, {Rail: 2}}},
			end(2000, 900, 1, true),
			{Spot: api.Spot{X: 2000}, Kind: api.NodePlain, Ends: []api.RailEnd{{Rail: 2, Last: true}, {Rail: 3}}},
			{Spot: api.Spot{X: 3000}, Kind: api.NodeSet, Ends: []api.RailEnd{{Rail: 3, Last: true}, {Rail: 4}, {Rail: 5}}},
			end(4000, 900, 4, true),
			end(4000, 0, 5, true),
		},
		Rails: []api.Rail{{From: 0, To: 1, Limit: 1}, {From: 1, To: 2, Limit: 1}, {From: 1, To: 3, Limit: 1}, {From: 3, To: 4, Limit: 1}, {From: 4, To: 5, Limit: 1}, {From: 4, To: 6, Limit: 1}},
	}
}

// model is a lock as the document defines it, without any thought of speed.
type model struct {
	s      api.LockSetup
	fouls  []api.Foul
	cars   map[int]api.LockCar
	points []int
}

func newModel(s api.LockSetup) *model {
	m := &model{s: s, cars: map[int]api.LockCar{}, points: make([]int, len(s.Plan.Nodes))}
	m.fouls, _ = sweep.Fouls(s.Plan, s.Profiles)
	for i, n := range s.Plan.Nodes {
		if n.Kind == api.NodeSet {
			m.points[i] = 1
		}
	}
	return m
}

func (m *model) foul(a, x, b, y int) bool {
	return slices.Contains(m.fouls, api.Foul{RailA: a, ProfileA: x, RailB: b, ProfileB: y}) || slices.Contains(m.fouls, api.Foul{RailA: b, ProfileA: y, RailB: a, ProfileB: x})
}

// single returns the single of a move and whether it leads up; -1 if there is none.
func (m *model) single(x api.Move) (int, bool) {
	for i, s := range m.s.Singles {
		for _, y := range s.Moves {
			if y.Rail == x.Rail {
				return i, x == y
			}
		}
	}
	return -1, false
}

// refusal returns why a car may not be granted a move.
func (m *model) refusal(c api.LockCar, x api.Move) api.Refusal {
	found := map[api.RefusalKind][]int{}
	if len(c.Way) > 0 {
		if is, _ := track.Follows(m.s.Plan, c.Way[len(c.Way)-1], x); !is {
			return api.Refusal{Kind: api.RefusalEnd}
		}
	}
	for _, y := range c.Way {
		if y.Rail == x.Rail {
			return api.Refusal{Kind: api.RefusalOwn}
		}
	}
	single, up := m.single(x)
	for name, d := range m.cars {
		for i, y := range d.Way {
			if k, also := m.single(y); name != c.Name && k >= 0 && k == single && also != up {
				found[api.RefusalSingle] = append(found[api.RefusalSingle], name)
			}
			if name != c.Name && m.foul(x.Rail, c.Profile, y.Rail, d.Profile) {
				found[api.RefusalFoul] = append(found[api.RefusalFoul], name)
			}
			if i > 0 && len(c.Way) > 0 {
				want, e := track.Between(m.s.Plan, c.Way[len(c.Way)-1], x)
				held, e1 := track.Between(m.s.Plan, d.Way[i-1], y)
				if e == api.OK && e1 == api.OK && want.Node == held.Node && want.Leg != held.Leg {
					found[api.RefusalPoints] = append(found[api.RefusalPoints], name)
				}
			}
		}
	}
	for kind := api.RefusalFoul; kind <= api.RefusalSingle; kind++ {
		if l := found[kind]; len(l) > 0 {
			return api.Refusal{Kind: kind, Car: slices.Min(l)}
		}
	}
	if len(c.Way) == api.MaxHeld {
		return api.Refusal{Kind: api.RefusalLong}
	}
	return api.Refusal{}
}

// grant grants a move to a car of which it is known that it may have it.
func (m *model) grant(c api.LockCar, x api.Move) api.LockCar {
	if len(c.Way) > 0 {
		if s, e := track.Between(m.s.Plan, c.Way[len(c.Way)-1], x); e == api.OK {
			m.points[s.Node] = s.Leg
		}
	}
	c.Way = append(slices.Clone(c.Way), x)
	return c
}

func (m *model) copied() *model {
	n := *m
	n.points = slices.Clone(m.points)
	n.cars = map[int]api.LockCar{}
	for name, c := range m.cars {
		n.cars[name] = c
	}
	return &n
}

func (m *model) enter(c api.LockCar, way []api.Move) api.Refusal {
	n := m.copied()
	for _, x := range way {
		if r := n.refusal(c, x); r.Kind != 0 {
			return r
		}
		c = n.grant(c, x)
	}
	c.Front = len(way) - 1
	n.cars[c.Name] = c
	*m = *n
	return api.Refusal{}
}

// turn returns the refusal of a turn, and its error.
func (m *model) turn(name int) (api.Refusal, api.Errno) {
	c := m.cars[name]
	if c.Front < len(c.Way)-1 {
		return api.Refusal{}, api.ErrState
	}
	var way []api.Move
	for i := len(c.Way) - 1; i >= 0; i-- {
		way = append(way, api.Move{Rail: c.Way[i].Rail, Back: !c.Way[i].Back})
	}
	if _, e := track.WayLength(m.s.Plan, way); e != api.OK {
		return api.Refusal{}, api.ErrRule
	}
	var others []int
	for _, x := range way {
		for other, d := range m.cars {
			for _, y := range d.Way {
				i, up := m.single(x)
				if k, also := m.single(y); other != name && i >= 0 && i == k && up != also {
					others = append(others, other)
				}
			}
		}
	}
	if len(others) > 0 {
		return api.Refusal{Kind: api.RefusalSingle, Car: slices.Min(others)}, api.ErrBusy
	}
	c.Way = way
	m.cars[name] = c
	return api.Refusal{}, api.OK
}

// list returns the cars of the model by their names.
func (m *model) list() []api.LockCar {
	var l []api.LockCar
	for _, c := range m.cars {
		l = append(l, c)
	}
	slices.SortFunc(l, func(a, b api.LockCar) int { return a.Name - b.Name })
	return l
}

// randomWay returns a way that a car could be put on.
func randomWay(r *sample.Rand, p api.Plan) []api.Move {
	way := []api.Move{{Rail: r.Below(len(p.Rails)), Back: r.Often(50)}}
	for range r.Below(3) {
		next, _ := track.Next(p, way[len(way)-1])
		if len(next) > 0 {
			n := next[r.Below(len(next))]
			if !slices.ContainsFunc(way, func(m api.Move) bool { return m.Rail == n.Rail }) {
				way = append(way, n)
			}
		}
	}
	return way
}

// TestCommands is for P5.2 to P5.4: random commands against the model; each state is safe, and points that are held stay.
func TestCommands(t *testing.T) {
	kinds := map[api.RefusalKind]int{}
	for seed := range 150 {
		s := setup(seed)
		l, m, r := open(t, s), newModel(s), sample.New(seed+1000)
		for step := range 150 {
			before, held := l.Points(), heldPoints(t, l, s.Plan)
			command(t, r, l, m, kinds)
			cars, points := l.Cars(), l.Points()
			if !slices.Equal(points, m.points) || len(cars) != len(m.cars) || len(cars) > 0 && !reflect.DeepEqual(cars, m.list()) {
				t.Fatal(seed, step, cars, m.list(), points, m.points)
			}
			if step%10 == 0 && !lock.Safe(s, cars, points) {
				t.Fatal(seed, step, cars, points, "is not safe")
			}
			for node := range held {
				if stillHeld := heldPoints(t, l, s.Plan)[node]; stillHeld && points[node] != before[node] {
					t.Fatal(seed, step, "points that are held have moved")
				}
			}
			rail := r.Below(len(s.Plan.Rails))
			var want []int
			for _, c := range m.list() {
				if slices.ContainsFunc(c.Way, func(x api.Move) bool { return x.Rail == rail }) {
					want = append(want, c.Name)
				}
			}
			if h, e := l.Holders(rail); e != api.OK || !slices.Equal(h, want) {
				t.Fatal(seed, step, rail, h, want, e)
			}
		}
	}
	for _, k := range []api.RefusalKind{api.RefusalEnd, api.RefusalOwn, api.RefusalFoul, api.RefusalSingle} {
		if kinds[k] < 5 {
			t.Error("the samples are too simple:", kinds)
		}
	}
}

// heldPoints returns the nodes whose points some car holds.
func heldPoints(t *testing.T, l *lock.Lock, p api.Plan) map[int]bool {
	t.Helper()
	held := map[int]bool{}
	for _, c := range l.Cars() {
		settings, e := track.Settings(p, c.Way)
		if e != api.OK {
			t.Fatal(e)
		}
		for _, s := range settings {
			held[s.Node] = true
		}
	}
	return held
}

// command does the same with a lock and with its model.
func command(t *testing.T, r *sample.Rand, l *lock.Lock, m *model, kinds map[api.RefusalKind]int) {
	t.Helper()
	name := r.From(1, 6)
	c, there := m.cars[name]
	if !there {
		c, way := api.LockCar{Name: name, Profile: r.Below(len(m.s.Profiles))}, randomWay(r, m.s.Plan)
		got, e := l.Enter(name, c.Profile, way)
		want := m.enter(c, way)
		kinds[want.Kind]++
		if got != want || (e == api.OK) != (want.Kind == 0) || e != api.OK && e != api.ErrBusy {
			t.Fatal(way, got, want, e)
		}
		return
	}
	want := api.OK
	var e api.Errno
	switch r.Below(12) {
	case 0, 1, 2, 3, 4, 5:
		askBoth(t, r, l, m, c, kinds)
		return
	case 6, 7:
		if e = l.Go(name); c.Front+1 < len(c.Way) {
			c.Front++
		} else {
			want = api.ErrState
		}
	case 8:
		if e = l.Leave(name); c.Front > 0 {
			c.Way, c.Front = c.Way[1:], c.Front-1
		} else {
			want = api.ErrState
		}
	case 9:
		e = l.Yield(name)
		c.Way = c.Way[:c.Front+1]
	case 10:
		refusal, e := l.Turn(name)
		if w, err := m.turn(name); refusal != w || e != err {
			t.Fatal(refusal, w, e, err)
		}
		return
	case 11:
		if e = l.Remove(name); e == api.OK {
			delete(m.cars, name)
			return
		}
	}
	if e != want {
		t.Fatal(name, e, want)
	}
	m.cars[name] = c
}

func askBoth(t *testing.T, r *sample.Rand, l *lock.Lock, m *model, c api.LockCar, kinds map[api.RefusalKind]int) {
	t.Helper()
	x := api.Move{Rail: r.Below(len(m.s.Plan.Rails)), Back: r.Often(50)}
	if next, _ := track.Next(m.s.Plan, c.Way[len(c.Way)-1]); len(next) > 0 && r.Often(90) {
		x = next[r.Below(len(next))]
	}
	want := m.refusal(c, x)
	kinds[want.Kind]++
	err := api.ErrBusy
	switch want.Kind {
	case 0:
		err = api.OK
		m.cars[c.Name] = m.grant(c, x)
	case api.RefusalEnd:
		err = api.ErrRule
	}
	if got, e := l.Ask(c.Name, x); got != want || e != err {
		t.Fatal(c, x, got, want, e)
	}
}
