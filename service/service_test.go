package service_test

import (
	"math"
	"slices"
	"testing"

	"tramline/api"
	"tramline/motion"
	"tramline/sample"
	"tramline/service"
	"tramline/track"
)

// example returns the line of the chapter's examples with its plan.
func example(t *testing.T) (api.Plan, api.Line) {
	t.Helper()
	l, ok := sample.ExampleLine()
	if !ok {
		t.Fatal("there is no such line")
	}
	return sample.Street(), l
}

// one returns the service of a line.
func one(l api.Line, headway, offset int) api.Service {
	return api.Service{Lines: []api.Line{l}, Headways: []int{headway}, Offsets: []int{offset}}
}

// random returns a line that looks random.
func random(t *testing.T, r *sample.Rand) api.Line {
	t.Helper()
	var runs, dwells [2][]int
	for d := range runs {
		n := r.From(1, 3)
		dwells[d] = []int{0}
		for i := range n {
			runs[d] = append(runs[d], r.From(4, 30))
			dwells[d] = append(dwells[d], r.From(0, 20))
			if i == n-1 {
				dwells[d][n] = 0
			}
		}
	}
	l, ok := sample.Line(runs[0], dwells[0], runs[1], dwells[1], r.From(0, 60))
	if !ok {
		t.Fatal(runs, dwells)
	}
	return l
}

func course(l api.Line, home bool) api.Course {
	if home {
		return l.Home
	}
	return l.Out
}

// TestOffsets is for P7.1: the examples, and offsets from the runs of layer 3.
func TestOffsets(t *testing.T) {
	p, l := example(t)
	for home, want := range map[bool][]int{false: {0, 80, 120}, true: {0, 60, 120}} {
		if o, e := service.Offsets(p, l, home); !slices.Equal(o, want) || e != api.OK {
			t.Error(home, o, e)
		}
	}
	if n, e := service.Round(p, l); n != 300 || e != api.OK {
		t.Error(n, e)
	}
	for h, want := range map[int]int{100: 3, 300: 1, 301: 1, 299: 2, 30: 10, 7200: 1} {
		if n, e := service.Cars(p, l, h); n != want || e != api.OK {
			t.Error(h, n, e)
		}
	}
	for _, h := range []int{29, 7201, 0, -100, math.MinInt, math.MaxInt} {
		if n, e := service.Cars(p, l, h); n != 0 || e != api.ErrArg {
			t.Error(h, n, e)
		}
	}
	for seed := range 20 {
		r := sample.New(seed)
		l := random(t, r)
		ends := 0
		for _, home := range []bool{false, true} {
			c := course(l, home)
			millis, e := motion.Run(p, c.Way, l.Train, l.State, c.Stops)
			if e != api.OK {
				t.Fatal(seed, e)
			}
			want := []int{0}
			for i, n := range millis {
				want = append(want, want[i]+int(math.Ceil(float64(n)/1000))+c.Dwells[i+1])
			}
			if o, e := service.Offsets(p, l, home); e != api.OK || !slices.Equal(o, want) {
				t.Fatal(seed, o, want, e)
			}
			ends += want[len(want)-1]
		}
		if n, e := service.Round(p, l); n != ends+2*l.Layover || e != api.OK {
			t.Fatal(seed, n, e)
		}
		h := r.From(30, 300)
		if n, e := service.Cars(p, l, h); e != api.OK || n*h < ends+2*l.Layover || (n-1)*h >= ends+2*l.Layover {
			t.Fatal(seed, h, n, e)
		}
	}
}

// TestShortRun is for P7.1: a running time is at least a second.
func TestShortRun(t *testing.T) {
	p, l := example(t)
	l.Out.Stops[1] = l.Out.Stops[0] + 500 // the train has arrived before it starts
	l.Out.Stops = l.Out.Stops[:2]
	l.Out.Dwells = []int{0, 0}
	if o, e := service.Offsets(p, l, false); !slices.Equal(o, []int{0, 1}) || e != api.OK {
		t.Error(o, e)
	}
}

// TestWholeSeconds is for P7.1: running times are rounded up, but whole seconds stay.
func TestWholeSeconds(t *testing.T) {
	p, l := example(t)
	l.Out.Stops, l.Out.Dwells = l.Out.Stops[:2], []int{0, 0}
	seen := map[int]bool{}
	for stop := 30000; stop < 34000; stop += 50 {
		l.Out.Stops = []int{20000, stop}
		millis, e := motion.Run(p, l.Out.Way, l.Train, l.State, l.Out.Stops)
		if e != api.OK {
			t.Fatal(stop, e)
		}
		want := millis[0] / 1000
		if millis[0]%1000 > 0 {
			want++
		}
		seen[millis[0]%1000] = true
		if o, e := service.Offsets(p, l, false); e != api.OK || o[1] != want {
			t.Error(stop, millis, o, e)
		}
	}
	if !seen[0] || !seen[100] || !seen[900] {
		t.Error("the samples are too simple:", seen)
	}
}

// broken returns lines that are not as defined, and some that are.
func broken() map[string]struct {
	do   func(l *api.Line)
	want api.Errno
} {
	type c = struct {
		do   func(l *api.Line)
		want api.Errno
	}
	return map[string]c{
		"as it is":    {func(l *api.Line) {}, api.OK},
		"no way":      {func(l *api.Line) { l.Out.Way = nil }, api.ErrArg},
		"no way home": {func(l *api.Line) { l.Home.Way = []api.Move{{Rail: 1}} }, api.ErrArg},
		"one stop":    {func(l *api.Line) { l.Out.Stops, l.Out.Dwells = l.Out.Stops[:1], l.Out.Dwells[:1] }, api.ErrArg},
		"no stops":    {func(l *api.Line) { l.Home.Stops, l.Home.Dwells = nil, nil }, api.ErrArg},
		"60 stops":    {func(l *api.Line) { manyStops(&l.Out, 60) }, api.OK},
		"61 stops":    {func(l *api.Line) { manyStops(&l.Out, 61) }, api.ErrArg},
		"a stop at the end": {func(l *api.Line) {
			l.Home.Stops[2], l.Home.Stops[1], l.Home.Stops[0] = wayLength(), wayLength()-9000, wayLength()-19000
		}, api.OK},
		"a stop beyond it":    {func(l *api.Line) { l.Home.Stops[2] = wayLength() + 1 }, api.ErrArg},
		"a stop at 1":         {func(l *api.Line) { l.Train.Length, l.Out.Stops[0] = 1, 1 }, api.OK},
		"equal stops":         {func(l *api.Line) { l.Out.Stops[1] = l.Out.Stops[0] }, api.ErrArg},
		"a stop before":       {func(l *api.Line) { l.Out.Stops[0] = 0 }, api.ErrArg},
		"too near":            {func(l *api.Line) { l.Out.Stops[0] = 19999 }, api.ErrArg}, // layer 3 refuses it
		"a stop behind":       {func(l *api.Line) { l.Home.Stops[2] = 100000000 }, api.ErrArg},
		"too few dwells":      {func(l *api.Line) { l.Out.Dwells = l.Out.Dwells[:2] }, api.ErrArg},
		"too many dwells":     {func(l *api.Line) { l.Out.Dwells = append(l.Out.Dwells, 0) }, api.ErrArg},
		"dwell 600":           {func(l *api.Line) { l.Out.Dwells[1] = 600 }, api.OK},
		"dwell 601":           {func(l *api.Line) { l.Out.Dwells[1] = 601 }, api.ErrArg},
		"dwell -1":            {func(l *api.Line) { l.Out.Dwells[1] = -1 }, api.ErrArg},
		"dwell at first":      {func(l *api.Line) { l.Out.Dwells[0] = 1 }, api.ErrArg},
		"dwell at last":       {func(l *api.Line) { l.Home.Dwells[2] = 1 }, api.ErrArg},
		"layover 3600":        {func(l *api.Line) { l.Layover = 3600 }, api.OK},
		"layover 3601":        {func(l *api.Line) { l.Layover = 3601 }, api.ErrArg},
		"layover -1":          {func(l *api.Line) { l.Layover = -1 }, api.ErrArg},
		"broken train":        {func(l *api.Line) { l.Train.Mass = 0 }, api.ErrArg},
		"no such state":       {func(l *api.Line) { l.State = 1 }, api.ErrArg},
		"a train that stands": {func(l *api.Line) { l.Train.Resist = 100000 }, api.ErrArg}, // layer 3 finds no run
	}
}

// wayLength returns the length of the only rail.
func wayLength() int {
	n, _ := track.Length(sample.Street(), 0)
	return n
}

func manyStops(c *api.Course, n int) {
	c.Stops, c.Dwells = nil, make([]int, n)
	for i := range n {
		c.Stops = append(c.Stops, 20000+5000*i)
	}
}

// TestBroken is for P7.1, and for lines as arguments of all functions.
func TestBroken(t *testing.T) {
	for name, c := range broken() {
		p, l := example(t)
		c.do(&l)
		for i, e := range errors(p, l) {
			if e != c.want {
				t.Error(name, i, e)
			}
		}
	}
	p, l := example(t)
	p.Rails[0].Limit = 0
	for i, e := range errors(p, l) {
		if e != api.ErrArg {
			t.Error(i, e)
		}
	}
}

// errors returns the errors of all functions for a line, also as the second one of a service; -1 if a result is not a zero value with an error.
func errors(p api.Plan, l api.Line) []api.Errno {
	good, _ := sample.ExampleLine()
	s := api.Service{Lines: []api.Line{good, l}, Headways: []int{100, 100}, Offsets: []int{0, 99}}
	c := api.Connection{FromStop: 1}
	o, e1 := service.Offsets(p, l, false)
	n, e2 := service.Round(p, l)
	m, e3 := service.Cars(p, l, 100)
	trips, e4 := service.Trips(p, s, nil, 0, 1000)
	last, e5 := service.Last(p, s, nil, 0, false, 9000)
	w, e6 := service.Wait(p, s, c)
	k, e7 := service.Keeps(p, s, []api.Connection{c})
	offsets, e8 := service.Connect(p, s.Lines, 100, nil)
	f, e9 := service.Free(p, s, 0, false, 0, 100, 10)
	slot, e10 := service.Slot(p, s, 0, false, 0, 100, 10)
	errs := []api.Errno{service.Check(p, s), e1, e2, e3, e4, e5, e6, e7, e8, e9, e10}
	if e1 != api.OK && (len(o)+n+m+len(trips)+w+len(offsets)+slot > 0 || k || f || last != (api.Trip{})) {
		return []api.Errno{-1}
	}
	return errs
}

// TestServices is for P7.1: services that are as defined, and others; the longest course.
func TestServices(t *testing.T) {
	p, l := example(t)
	for name, c := range map[string]struct {
		s    api.Service
		want api.Errno
	}{
		"one line":         {one(l, 100, 0), api.OK},
		"no lines":         {api.Service{}, api.ErrArg},
		"headway 30":       {one(l, 30, 29), api.OK},
		"headway 29":       {one(l, 29, 0), api.ErrArg},
		"headway 7200":     {one(l, 7200, 7199), api.OK},
		"headway 7201":     {one(l, 7201, 0), api.ErrArg},
		"offset -1":        {one(l, 100, -1), api.ErrArg},
		"offset 100":       {one(l, 100, 100), api.ErrArg},
		"no headways":      {api.Service{Lines: []api.Line{l}, Offsets: []int{0}}, api.ErrArg},
		"no offsets":       {api.Service{Lines: []api.Line{l}, Headways: []int{100}}, api.ErrArg},
		"too many offsets": {api.Service{Lines: []api.Line{l}, Headways: []int{100}, Offsets: []int{0, 0}}, api.ErrArg},
		"20 lines":         {lines(l, 20), api.OK},
		"21 lines":         {lines(l, 21), api.ErrArg},
	} {
		if e := service.Check(p, c.s); e != c.want {
			t.Error(name, e)
		}
		if _, e := service.Trips(p, c.s, nil, 0, 100); e != c.want {
			t.Error(name, e)
		}
	}
	// A slow train with so many stops that dwells make the last offset exactly 50000.
	manyStops(&l.Out, 60)
	l.Train.Speed, l.Train.Effort, l.Train.Brake, l.Train.Resist, l.Train.Rise = 15, 100, 600, 0, 0
	l.Home = api.Course{Way: l.Home.Way, Stops: []int{20000, 22000}, Dwells: []int{0, 0}}
	o, e := service.Offsets(p, l, false)
	if e != api.OK {
		t.Fatal(e)
	}
	for left, i := 50000-o[59], 1; left > 0; i++ {
		l.Out.Dwells[i] = min(left, 600)
		left -= l.Out.Dwells[i]
	}
	if o, e := service.Offsets(p, l, false); e != api.OK || o[59] != 50000 {
		t.Error(o, e)
	}
	l.Out.Dwells[slices.IndexFunc(l.Out.Dwells[1:], func(d int) bool { return d < 600 })+1]++
	for i, e := range errors(p, l) {
		if e != api.ErrArg {
			t.Error(i, e)
		}
	}
}

func lines(l api.Line, n int) api.Service {
	return api.Service{Lines: slices.Repeat([]api.Line{l}, n), Headways: slices.Repeat([]int{100}, n), Offsets: make([]int, n)}
}

// day returns all trips of a service of some seconds, by going through all rounds.
func day(t *testing.T, p api.Plan, s api.Service, works []api.Works, from, until int) []api.Trip {
	t.Helper()
	var l []api.Trip
	for line := range s.Lines {
		for _, home := range []bool{false, true} {
			base, n, length := base(t, p, s, line, home)
			for k := -4000; k < 9000; k++ {
				trip := api.Trip{Line: line, Home: home, Car: ((k % n) + n) % n, Depart: base + k*s.Headways[line]}
				if trip.Depart >= from && trip.Depart+length <= until && !stopped(course(s.Lines[line], home), trip.Depart, trip.Depart+length, works) {
					l = append(l, trip)
				}
			}
		}
	}
	slices.SortStableFunc(l, func(a, b api.Trip) int {
		if a.Depart != b.Depart {
			return a.Depart - b.Depart
		}
		return a.Line - b.Line
	})
	return l
}

// base returns the departure of the round 0, the number of cars, and the last offset of a direction.
func base(t *testing.T, p api.Plan, s api.Service, line int, home bool) (int, int, int) {
	t.Helper()
	l, h := s.Lines[line], s.Headways[line]
	out, e0 := service.Offsets(p, l, false)
	back, e1 := service.Offsets(p, l, true)
	if e0 != api.OK || e1 != api.OK {
		t.Fatal(e0, e1)
	}
	there, here := out[len(out)-1], back[len(back)-1]
	n := 1
	for n*h < there+here+2*l.Layover {
		n++
	}
	if !home {
		return s.Offsets[line], n, there
	}
	return s.Offsets[line] + there + l.Layover + (n*h-there-here-2*l.Layover)/2, n, here
}

func stopped(c api.Course, depart, arrive int, works []api.Works) bool {
	return slices.ContainsFunc(works, func(w api.Works) bool {
		return depart < w.Until && w.From < arrive && slices.ContainsFunc(c.Way, func(m api.Move) bool { return m.Rail == w.Rail })
	})
}

// TestTripsExample is for P7.2.
func TestTripsExample(t *testing.T) {
	p, l := example(t)
	want := []api.Trip{{Depart: 0}, {Home: true, Car: 2, Depart: 50}, {Car: 1, Depart: 100}, {Home: true, Depart: 150}, {Car: 2, Depart: 200}}
	if trips, e := service.Trips(p, one(l, 100, 0), nil, 0, 320); e != api.OK || !slices.Equal(trips, want) {
		t.Error(trips, e)
	}
	trips, e := service.Trips(p, one(l, 400, 0), nil, 0, 2000)
	for _, trip := range trips {
		if trip.Home && trip.Depart%400 != 200 || !trip.Home && trip.Depart%400 != 0 || trip.Car != 0 {
			t.Error(trip)
		}
	}
	if e != api.OK || len(trips) != 10 { // Home at 200, .., 1800 and Out at 0, .., 1600
		t.Error(trips, e)
	}
	if trips, e := service.Trips(p, one(l, 100, 0), nil, 0, 119); e != api.OK || len(trips) > 0 {
		t.Error(trips, e)
	}
}

// TestTrips is for P7.2: trips against all rounds; and that cars stand long enough between their trips.
func TestTrips(t *testing.T) {
	p := sample.Street()
	for seed := range 20 {
		r := sample.New(seed)
		s := api.Service{}
		for range r.From(1, 3) {
			h := r.From(30, 400)
			s.Lines, s.Headways, s.Offsets = append(s.Lines, random(t, r)), append(s.Headways, h), append(s.Offsets, r.Below(h))
		}
		var works []api.Works
		for range r.Below(3) {
			from := r.From(0, 3000)
			works = append(works, api.Works{From: from, Until: r.From(from, from+300)})
		}
		from := r.From(0, 2000)
		until := r.From(from, 4000)
		for _, w := range [][]api.Works{nil, works} {
			trips, e := service.Trips(p, s, w, from, until)
			if want := day(t, p, s, w, from, until); e != api.OK || !slices.Equal(trips, want) {
				t.Fatal(seed, trips, want, e)
			}
			checkCars(t, seed, p, s, trips, len(w) == 0)
		}
	}
}

// checkCars checks that each car runs one trip at a time, with layovers between them, and in turn if it runs all of them.
func checkCars(t *testing.T, seed int, p api.Plan, s api.Service, trips []api.Trip, all bool) {
	t.Helper()
	type car struct{ line, car int }
	last := map[car]api.Trip{}
	for _, trip := range trips {
		c := car{trip.Line, trip.Car}
		if x, ok := last[c]; ok {
			_, _, length := base(t, p, s, x.Line, x.Home)
			if trip.Depart < x.Depart+length+s.Lines[x.Line].Layover || all && trip.Home == x.Home {
				t.Fatal(seed, x, trip)
			}
		}
		last[c] = trip
	}
}

// TestTripsArguments is for P7.2: times and works out of range, and too many trips.
func TestTripsArguments(t *testing.T) {
	p, l := example(t)
	s := one(l, 100, 0)
	for _, c := range [][2]int{{-1, 100}, {200, 199}, {0, 200001}, {math.MinInt, math.MaxInt}} {
		if trips, e := service.Trips(p, s, nil, c[0], c[1]); len(trips) > 0 || e != api.ErrArg {
			t.Error(c, trips, e)
		}
	}
	for _, c := range [][2]int{{0, 0}, {5, 5}, {199000, 200000}, {200000, 200000}} {
		if trips, e := service.Trips(p, s, nil, c[0], c[1]); e != api.OK || (len(trips) > 0) != (c[1]-c[0] == 1000) {
			t.Error(c, trips, e)
		}
	}
	for i, c := range []struct {
		w    api.Works
		want api.Errno
	}{
		{api.Works{}, api.OK}, {api.Works{From: 200000, Until: 200000}, api.OK}, {api.Works{Rail: 1}, api.ErrArg}, {api.Works{Rail: -1}, api.ErrArg},
		{api.Works{From: -1}, api.ErrArg}, {api.Works{From: 2, Until: 1}, api.ErrArg}, {api.Works{Until: 200001}, api.ErrArg},
	} {
		if trips, e := service.Trips(p, s, []api.Works{c.w}, 0, 1000); e != c.want {
			t.Error(i, trips, e)
		}
		if trip, e := service.Last(p, s, []api.Works{c.w}, 0, false, 1000); e != c.want {
			t.Error(i, trip, e)
		}
	}
	for n, want := range map[int]api.Errno{100: api.OK, 101: api.ErrArg} {
		if _, e := service.Trips(p, s, make([]api.Works, n), 0, 1000); e != want {
			t.Error(n, e)
		}
		if _, e := service.Last(p, s, make([]api.Works, n), 0, false, 1000); e != want {
			t.Error(n, e)
		}
	}
}
