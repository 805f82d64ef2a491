package motion_test

import (
	"math"
	"reflect"
	"slices"
	"testing"

	"tramline/api"
	"tramline/motion"
	"tramline/sample"
)

// train returns the train t of the examples.
func train() api.Train {
	return api.Train{Mass: 1000, Length: 5000, Speed: 10000, Effort: 2000, Brake: 1000, Power: 1000000, Back: 50, Grip: []int{1000, 10}}
}

// randomTrain returns a train that looks random.
func randomTrain(r *sample.Rand) api.Train {
	t := api.Train{Mass: r.From(1000, 40000), Length: r.From(1, 20000), Speed: r.From(1, 12500), Effort: r.From(1, 100000), Brake: r.From(1, 100000), Power: r.From(1, 1000000), Back: r.From(0, 100)}
	if r.Often(50) {
		t.Resist, t.Rise = r.From(0, 3000), r.From(0, 3000)
	}
	for range r.From(1, 4) {
		t.Grip = append(t.Grip, r.From(1, 500))
	}
	return t
}

// changes are trains that differ from t by one field, with whether they are as defined.
func changes() map[string]struct {
	do func(t *api.Train)
	ok bool
} {
	type c = struct {
		do func(t *api.Train)
		ok bool
	}
	return map[string]c{
		"as it is":        {func(t *api.Train) {}, true},
		"mass 999":        {func(t *api.Train) { t.Mass = 999 }, false},
		"mass 80000":      {func(t *api.Train) { t.Mass = 80000 }, true},
		"mass 80001":      {func(t *api.Train) { t.Mass = 80001 }, false},
		"mass huge":       {func(t *api.Train) { t.Mass = math.MaxInt }, false},
		"length 0":        {func(t *api.Train) { t.Length = 0 }, false},
		"length 60000":    {func(t *api.Train) { t.Length = 60000 }, true},
		"length 60001":    {func(t *api.Train) { t.Length = 60001 }, false},
		"speed 0":         {func(t *api.Train) { t.Speed = 0 }, false},
		"speed 25000":     {func(t *api.Train) { t.Speed = 25000 }, true},
		"speed 25001":     {func(t *api.Train) { t.Speed = 25001 }, false},
		"effort 0":        {func(t *api.Train) { t.Effort = 0 }, false},
		"effort 200000":   {func(t *api.Train) { t.Effort = 200000 }, true},
		"effort 200001":   {func(t *api.Train) { t.Effort = 200001 }, false},
		"brake 0":         {func(t *api.Train) { t.Brake = 0 }, false},
		"brake 200000":    {func(t *api.Train) { t.Brake = 200000 }, true},
		"brake 200001":    {func(t *api.Train) { t.Brake = 200001 }, false},
		"power 0":         {func(t *api.Train) { t.Power = 0 }, false},
		"power 2000000":   {func(t *api.Train) { t.Power = 2000000 }, true},
		"power 2000001":   {func(t *api.Train) { t.Power = 2000001 }, false},
		"resist -1":       {func(t *api.Train) { t.Resist = -1 }, false},
		"resist 100000":   {func(t *api.Train) { t.Resist = 100000 }, true},
		"resist 100001":   {func(t *api.Train) { t.Resist = 100001 }, false},
		"rise -1":         {func(t *api.Train) { t.Rise = -1 }, false},
		"rise 10000":      {func(t *api.Train) { t.Rise = 10000 }, true},
		"rise 10001":      {func(t *api.Train) { t.Rise = 10001 }, false},
		"back -1":         {func(t *api.Train) { t.Back = -1 }, false},
		"back 100":        {func(t *api.Train) { t.Back = 100 }, true},
		"back 101":        {func(t *api.Train) { t.Back = 101 }, false},
		"no grip":         {func(t *api.Train) { t.Grip = nil }, false},
		"8 grips":         {func(t *api.Train) { t.Grip = slices.Repeat([]int{1}, 8) }, true},
		"9 grips":         {func(t *api.Train) { t.Grip = slices.Repeat([]int{1}, 9) }, false},
		"grip 0":          {func(t *api.Train) { t.Grip[1] = 0 }, false},
		"grip 1001":       {func(t *api.Train) { t.Grip[0] = 1001 }, false},
		"negative of all": {func(t *api.Train) { t.Mass, t.Effort = math.MinInt, math.MinInt }, false},
		"the zero value":  {func(t *api.Train) { *t = api.Train{} }, false},
		"the least of all": {func(t *api.Train) {
			*t = api.Train{Mass: 1000, Length: 1, Speed: 1, Effort: 1, Brake: 1, Power: 1, Grip: []int{1}}
		}, true},
		"only the grip bad": {func(t *api.Train) { t.Grip[0] = -1 }, false},
	}
}

// TestCheck is for P3.1, and for trains as arguments of all functions.
func TestCheck(t *testing.T) {
	for name, c := range changes() {
		x := train()
		c.do(&x)
		if e := motion.Check(x); (e == api.OK) != c.ok || !c.ok && e != api.ErrArg {
			t.Error(name, e)
		}
		if c.ok {
			continue
		}
		p, way, stops := straight(), []api.Move{{}}, []int{5000, 7000}
		_, e0 := motion.Couple(x, train())
		_, e1 := motion.Couple(train(), x)
		_, _, e2 := motion.Step(x, api.MotionState{}, 0, 0, 0)
		_, _, e3 := motion.Powers(x, api.MotionState{}, 0, 0, 0)
		_, e4 := motion.Braking(x, api.MotionState{}, 0, 0)
		_, e5 := motion.Sight(x, 0, 0, 0)
		_, e6 := motion.Drive(p, way, x, 0, stops)
		_, e7 := motion.Run(p, way, x, 0, stops)
		for i, e := range []api.Errno{e0, e1, e2, e3, e4, e5, e6, e7} {
			if e != api.ErrArg {
				t.Error(name, i, e)
			}
		}
	}
}

// TestCouple is for P3.1: sums and lesser ones, in any order; sums that are out of range.
func TestCouple(t *testing.T) {
	a := train()
	b := api.Train{Mass: 2000, Length: 100, Speed: 9000, Effort: 1, Brake: 2, Power: 3, Resist: 4, Rise: 5, Back: 60, Grip: []int{5, 500}}
	c, e := motion.Couple(a, b)
	want := api.Train{Mass: 3000, Length: 5100, Speed: 9000, Effort: 2001, Brake: 1002, Power: 1000003, Resist: 4, Rise: 5, Back: 50, Grip: []int{5, 10}}
	if e != api.OK || !reflect.DeepEqual(c, want) {
		t.Error(c, e)
	}
	c.Grip[0] = 7
	if a.Grip[0] != 1000 || b.Grip[0] != 5 {
		t.Error("a coupled train shares memory")
	}
	for i, x := range []api.Train{
		{Mass: 79001, Length: 1}, {Mass: 1000, Length: 55001}, {Mass: 1000, Length: 1, Effort: 198001}, {Mass: 1000, Length: 1, Brake: 199001},
		{Mass: 1000, Length: 1, Power: 1000001}, {Mass: 1000, Length: 1, Resist: 100000}, {Mass: 1000, Length: 1, Rise: 10000},
	} {
		x.Speed, x.Effort, x.Brake, x.Power, x.Grip = 1, max(x.Effort, 1), max(x.Brake, 1), max(x.Power, 1), []int{1, 1}
		a := train()
		a.Resist, a.Rise = 1, 1
		if c, e := motion.Couple(a, x); e != api.ErrLong || !reflect.DeepEqual(c, api.Train{}) {
			t.Error(i, c, e)
		}
		x.Grip = []int{1}
		if _, e := motion.Couple(a, x); e != api.ErrArg {
			t.Error(i, "grips of different lengths", e)
		}
	}
	for seed := range 50 {
		r := sample.New(seed)
		var l [3]api.Train
		for i := range l {
			l[i] = randomTrain(r)
			l[i].Mass, l[i].Length, l[i].Grip = l[i].Mass/3+1000, l[i].Length/3+1, []int{r.From(1, 1000), r.From(1, 1000)}
			l[i].Effort, l[i].Brake, l[i].Power, l[i].Rise = l[i].Effort/3+1, l[i].Brake/3+1, l[i].Power/3+1, l[i].Rise/3
		}
		ab, e0 := motion.Couple(l[0], l[1])
		ba, e1 := motion.Couple(l[1], l[0])
		bc, e2 := motion.Couple(l[1], l[2])
		left, e3 := motion.Couple(ab, l[2])
		right, e4 := motion.Couple(l[0], bc)
		if e0|e1|e2|e3|e4 != api.OK || !reflect.DeepEqual(ab, ba) || !reflect.DeepEqual(left, right) {
			t.Fatal(seed, e0, e1, e2, e3, e4, left, right)
		}
	}
}

// down returns the quotient of two numbers, rounded down; b is positive.
func down(a, b int) int {
	if a < 0 {
		return -((-a + b - 1) / b)
	}
	return a / b
}

// forcesOf returns pull, brake, drag and hill, as the document defines them.
func forcesOf(t api.Train, momentum, demand, slope, state int) (int, int, int, int) {
	v := down(momentum, t.Mass)
	adhesion := down(t.Grip[state]*t.Mass*981, 100000)
	pull, brake := 0, 0
	if demand > 0 {
		pull = min(down(t.Effort*demand, 4), adhesion)
		if v > 0 {
			pull = min(pull, down(1000*t.Power, v))
		}
	}
	if demand < 0 {
		brake = min(down(t.Brake*-demand, 4), adhesion)
	}
	hill := down(t.Mass*max(slope, -slope)*981, 100000)
	if slope < 0 {
		hill = -hill
	}
	return pull, brake, t.Resist + down(t.Rise*v, 1000), hill
}

// stepOf makes a step as the document defines it; false if it is not possible.
func stepOf(t api.Train, x api.MotionState, demand, slope, state int) (api.MotionState, bool) {
	pull, brake, drag, hill := forcesOf(t, x.Momentum, demand, slope, state)
	f := pull - brake - drag - hill
	q := x.Momentum + 100*f
	if q < 0 || x.Momentum == 0 && f <= 0 {
		q = 0
	}
	return api.MotionState{Momentum: q, Way: x.Way + q}, q <= 25000*t.Mass
}

// TestStepExamples is for P3.2.
func TestStepExamples(t *testing.T) {
	x := train()
	for _, c := range []struct {
		momentum, demand, slope, state int
		want, round, hold              int
	}{
		{0, 4, 0, 0, 200000, 40000000000, 0},
		{0, 4, 0, 1, 9800, 10000 * 98 * 98, 0},
		{50000, -4, 0, 0, 0, 0, 2500000000},
		{100000, -4, 0, 0, 0, 10000000000, 0}, // exactly to a stand: nothing is held
		{0, 0, 100, 0, 0, 0, 0},
		{0, 0, 0, 0, 0, 0, 0},
		{1000000, 0, 100, 0, 901900, 10000 * 981 * 981, 0},
		{0, 0, -100, 0, 98100, 10000 * 981 * 981, 0}, // downhill it rolls
		{0, -4, -100, 0, 0, 0, 0},                    // but brakes hold it
	} {
		got, ledger, e := motion.Step(x, api.MotionState{Momentum: c.momentum, Way: 7}, c.demand, c.slope, c.state)
		if e != api.OK || got != (api.MotionState{Momentum: c.want, Way: c.want + 7}) || ledger.Round != c.round || ledger.Hold != c.hold {
			t.Error(c, got, ledger, e)
		}
	}
	if _, l, e := motion.Step(x, api.MotionState{}, 4, 0, 0); e != api.OK || l != (api.MotionLedger{Pull: 80000000000, Round: 40000000000}) {
		t.Error(l, e)
	}
	weak := train()
	weak.Effort, weak.Power = 1, 1
	if took, gave, e := motion.Powers(weak, api.MotionState{Momentum: 999901}, 4, 0, 0); took != 2 || gave != 0 || e != api.OK { // 1.000001 watts
		t.Error(took, gave, e)
	}
	weak.Effort = 2000 // at a millimeter a second, a watt is 1000 newtons
	if s, _, e := motion.Step(weak, api.MotionState{Momentum: 1000}, 4, 0, 0); s.Momentum != 101000 || e != api.OK {
		t.Error(s, e)
	}
	for _, c := range []struct{ momentum, demand, took, gave int }{{0, 4, 400, 0}, {1000000, -4, 0, 450}, {0, 0, 0, 0}} {
		if took, gave, e := motion.Powers(x, api.MotionState{Momentum: c.momentum}, c.demand, 0, 0); took != c.took || gave != c.gave || e != api.OK {
			t.Error(c, took, gave, e)
		}
	}
}

// TestStep is for P3.2: steps, ledgers that balance, and powers, against the definition; arguments at their borders.
func TestStep(t *testing.T) {
	long := 0
	for seed := range 3000 {
		r := sample.New(seed)
		x := randomTrain(r)
		if seed%50 == 0 {
			x = api.Train{Mass: 80000, Length: 1, Speed: 25000, Effort: 200000, Brake: 200000, Power: 2000000, Resist: 100000, Rise: 10000, Back: 100, Grip: []int{1000}}
		}
		s := api.MotionState{Momentum: r.From(0, 25000*x.Mass), Way: r.From(0, 10000000000)}
		if r.Often(20) {
			s.Momentum = r.From(0, 100) * 100
		}
		demand, slope, state := r.From(-4, 4), r.From(-120, 120), r.Below(len(x.Grip))
		want, possible := stepOf(x, s, demand, slope, state)
		got, l, e := motion.Step(x, s, demand, slope, state)
		took, gave, e1 := motion.Powers(x, s, demand, slope, state)
		if !possible {
			long++
			if e != api.ErrLong || e1 != api.ErrLong || got != (api.MotionState{}) || l != (api.MotionLedger{}) || took != 0 || gave != 0 {
				t.Fatal(seed, got, l, e, e1)
			}
			continue
		}
		pull, brake, drag, hill := forcesOf(x, s.Momentum, demand, slope, state)
		p, q := s.Momentum, got.Momentum
		if e != api.OK || got != want || q*q-p*p != l.Pull-l.Brake-l.Drag-l.Hill-l.Round-l.Hold {
			t.Fatal(seed, got, want, l, e)
		}
		if l.Pull != 200*pull*q || l.Brake != 200*brake*q || l.Drag != 200*drag*q || l.Hill != 200*hill*q || l.Hold != 0 && l.Round != 0 {
			t.Fatal(seed, l)
		}
		if e1 != api.OK || took != -down(-pull*q, 1000*x.Mass) || gave != down(brake*q*x.Back, 100000*x.Mass) {
			t.Fatal(seed, took, gave, e1)
		}
		elsewhere, l1, e := motion.Step(x, api.MotionState{Momentum: p, Way: 0}, demand, slope, state)
		if e != api.OK || elsewhere != (api.MotionState{Momentum: q, Way: q}) || l1 != l {
			t.Fatal(seed, "the step depends on where the train is")
		}
	}
	if long == 0 {
		t.Error("no step was impossible")
	}
}

// TestStepBorders is for P3.2: arguments out of range, and how far a train can come.
func TestStepBorders(t *testing.T) {
	x := train()
	for _, c := range []struct {
		s                    api.MotionState
		demand, slope, state int
		want                 api.Errno
	}{
		{api.MotionState{}, 0, 0, 0, api.OK},
		{api.MotionState{Momentum: -1}, 0, 0, 0, api.ErrArg},
		{api.MotionState{Momentum: 25000 * 1000}, 0, 0, 0, api.OK},
		{api.MotionState{Momentum: 25000 * 1000}, 1, 0, 0, api.ErrLong},
		{api.MotionState{Momentum: 25000*1000 + 1}, 0, 0, 0, api.ErrArg},
		{api.MotionState{Way: -1}, 0, 0, 0, api.ErrArg},
		{api.MotionState{Way: 10000000000000000}, 0, 0, 0, api.OK},
		{api.MotionState{Way: 10000000000000001}, 0, 0, 0, api.ErrArg},
		{api.MotionState{Way: 10000000000000000 - 200000}, 4, 0, 0, api.OK},
		{api.MotionState{Way: 10000000000000001 - 200000}, 4, 0, 0, api.ErrLong},
		{api.MotionState{}, 5, 0, 0, api.ErrArg},
		{api.MotionState{}, -5, 0, 0, api.ErrArg},
		{api.MotionState{}, 0, 120, 0, api.OK},
		{api.MotionState{}, 0, 121, 0, api.ErrArg},
		{api.MotionState{}, 0, -121, 0, api.ErrArg},
		{api.MotionState{}, 0, 0, 1, api.OK},
		{api.MotionState{}, 0, 0, 2, api.ErrArg},
		{api.MotionState{}, 0, 0, -1, api.ErrArg},
		{api.MotionState{Momentum: math.MaxInt, Way: math.MinInt}, math.MaxInt, math.MinInt, math.MaxInt, api.ErrArg},
	} {
		s, l, e := motion.Step(x, c.s, c.demand, c.slope, c.state)
		took, gave, e1 := motion.Powers(x, c.s, c.demand, c.slope, c.state)
		if e != c.want || e1 != c.want || e != api.OK && (s != (api.MotionState{}) || l != (api.MotionLedger{}) || took != 0 || gave != 0) {
			t.Error(c, s, l, e, e1)
		}
		if _, e := motion.Braking(x, c.s, c.slope, c.state); c.demand == 0 && (e == api.ErrArg) != (c.want == api.ErrArg) {
			t.Error(c, e)
		}
	}
}

// brakingOf returns the braking way as the document defines it; -1 if there is none.
func brakingOf(t api.Train, x api.MotionState, slope, state int) int {
	first := x.Way / (10 * t.Mass)
	for range 36000 {
		if x.Momentum == 0 {
			break
		}
		next, possible := stepOf(t, x, -4, slope, state)
		if !possible {
			return -1
		}
		x = next
	}
	if x.Momentum > 0 {
		return -1
	}
	return x.Way/(10*t.Mass) - first
}

// TestBraking is for P3.3.
func TestBraking(t *testing.T) {
	x := train()
	if n, e := motion.Braking(x, api.MotionState{Momentum: 1000000}, 0, 0); n != 450 || e != api.OK {
		t.Error(n, e)
	}
	if n, e := motion.Braking(x, api.MotionState{}, -120, 1); n != 0 || e != api.OK {
		t.Error(n, e)
	}
	if n, e := motion.Braking(x, api.MotionState{Momentum: 1}, -120, 1); n != 0 || e != api.ErrNone {
		t.Error(n, e)
	}
	none := 0
	for seed := range 150 {
		r := sample.New(seed)
		x := randomTrain(r)
		s := api.MotionState{Momentum: r.From(0, x.Speed*x.Mass), Way: r.From(0, 1000000000)}
		slope, state := r.From(-120, 120), r.Below(len(x.Grip))
		n, e := motion.Braking(x, s, slope, state)
		want := brakingOf(x, s, slope, state)
		if want < 0 {
			none++
		}
		if n != max(want, 0) || (e == api.OK) != (want >= 0) || want < 0 && e != api.ErrNone {
			t.Fatal(seed, n, want, e)
		}
	}
	if none == 0 {
		t.Error("each train can stop")
	}
	// A train of a newton of brake needs 800 steps for a millimeter a second: 44 can be stopped within 36000 steps, 46 cannot.
	weak := api.Train{Mass: 80000, Length: 1, Speed: 25000, Effort: 1, Brake: 1, Power: 1, Grip: []int{1000}}
	if _, e := motion.Braking(weak, api.MotionState{Momentum: 45 * 80000}, 0, 0); e != api.OK {
		t.Error(e)
	}
	if n, e := motion.Braking(weak, api.MotionState{Momentum: 45*80000 + 1}, 0, 0); n != 0 || e != api.ErrNone {
		t.Error(n, e)
	}
	if n, e := motion.Sight(weak, 0, 0, 1000000); n != 45 || e != api.OK {
		t.Error(n, e)
	}
}

// TestSight is for P3.3: the greatest speed from which a train can stop within a distance.
func TestSight(t *testing.T) {
	x := train()
	for distance, want := range map[int]int{450: 1000, 449: 999, 0: 109, 1000000: 10000} {
		if v, e := motion.Sight(x, 0, 0, distance); v != want || e != api.OK {
			t.Error(distance, v, e)
		}
	}
	for _, c := range [][3]int{{0, 0, -1}, {0, 0, 1000001}, {121, 0, 5}, {-121, 0, 5}, {0, 2, 5}, {0, -1, 5}, {0, 0, math.MaxInt}} {
		if v, e := motion.Sight(x, c[0], c[1], c[2]); v != 0 || e != api.ErrArg {
			t.Error(c, v, e)
		}
	}
	for seed := range 80 {
		r := sample.New(seed)
		x := randomTrain(r)
		x.Speed = r.From(1, 400)
		slope, state, distance := r.From(-120, 60), r.Below(len(x.Grip)), r.From(0, 300)
		want := 0
		for v := range x.Speed + 1 {
			if n := brakingOf(x, api.MotionState{Momentum: v * x.Mass}, slope, state); n >= 0 && n <= distance {
				want = v
			}
		}
		v, e := motion.Sight(x, slope, state, distance)
		if v != want || e != api.OK {
			t.Fatal(seed, v, want, e)
		}
	}
}

// TestSightCounts is for P3.3: a greater speed with a shorter braking way counts, too.
func TestSightCounts(t *testing.T) {
	x := api.Train{Mass: 1000, Length: 1, Speed: 60, Effort: 1, Brake: 1, Power: 1, Rise: 9041, Grip: []int{1000}}
	for v, want := range map[int]int{58: 1, 59: 0, 60: 0} {
		if n, e := motion.Braking(x, api.MotionState{Momentum: v * x.Mass}, 0, 0); n != want || e != api.OK {
			t.Error(v, n, e)
		}
	}
	for speed, want := range map[int]int{60: 60, 59: 59, 58: 57} {
		x.Speed = speed
		if v, e := motion.Sight(x, 0, 0, 0); v != want || e != api.OK {
			t.Error(speed, v, e)
		}
	}
}

// TestBrakingConsequences is for P3.5: without Rise, more adhesion and a lesser speed never make a braking way longer.
func TestBrakingConsequences(t *testing.T) {
	for seed := range 100 {
		r := sample.New(seed)
		x := randomTrain(r)
		x.Rise, x.Grip = 0, []int{r.From(50, 500)}
		s := api.MotionState{Momentum: r.From(0, x.Speed*x.Mass)}
		slope := r.From(-40, 60)
		n, e := motion.Braking(x, s, slope, 0)
		if e != api.OK {
			continue
		}
		better := x
		better.Grip = []int{x.Grip[0] + r.From(0, 100)}
		if m, e := motion.Braking(better, s, slope, 0); e != api.OK || m > n {
			t.Fatal(seed, n, m, e)
		}
		s.Momentum = r.From(0, s.Momentum)
		if m, e := motion.Braking(x, s, slope, 0); e != api.OK || m > n {
			t.Fatal(seed, n, m, e)
		}
	}
}
