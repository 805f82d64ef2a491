package control_test

import (
	"math"
	"reflect"
	"slices"
	"testing"

	"tramline/api"
	"tramline/control"
	"tramline/sample"
	"tramline/service"
	"tramline/track"
)

// example returns the day of the chapter.
func example(t *testing.T) api.Day {
	t.Helper()
	l, ok := sample.ExampleLine()
	if !ok {
		t.Fatal("there is no such line")
	}
	s := api.Service{Lines: []api.Line{l}, Headways: []int{100}, Offsets: []int{0}}
	return api.Day{Plan: sample.Street(), Service: s, Until: 700, Turnbacks: []api.Turnback{{Stop: 1, Back: 1, Seconds: 20}}}
}

// chains returns a plan of rails one after the other, one for each two neighbors in a list of spots; and the ways over them.
func chains(paths ...[]api.Spot) (api.Plan, [][]api.Move) {
	var p api.Plan
	var ways [][]api.Move
	for _, path := range paths {
		var way []api.Move
		for i, spot := range path {
			rail := len(p.Rails)
			n := api.Node{Spot: spot, Kind: api.NodePlain, Ends: []api.RailEnd{{Rail: rail - 1, Last: true}, {Rail: rail}}}
			if i == 0 {
				n.Kind, n.Ends = api.NodeEnd, n.Ends[1:]
			}
			if i == len(path)-1 {
				n.Kind, n.Ends = api.NodeEnd, n.Ends[:1]
			}
			p.Nodes = append(p.Nodes, n)
			if i < len(path)-1 {
				p.Rails = append(p.Rails, api.Rail{From: len(p.Nodes) - 1, To: len(p.Nodes), Limit: 20000})
				way = append(way, api.Move{Rail: rail})
			}
		}
		ways = append(ways, way)
	}
	return p, ways
}

func backward(way []api.Move) []api.Move {
	var l []api.Move
	for _, m := range slices.Backward(way) {
		l = append(l, api.Move{Rail: m.Rail, Back: true})
	}
	return l
}

// randomCourse returns a course of some stops.
func randomCourse(t *testing.T, r *sample.Rand, p api.Plan, way []api.Move) api.Course {
	t.Helper()
	var runs []int
	dwells := []int{0}
	for range r.From(2, 4) {
		runs = append(runs, r.From(5, 25))
		dwells = append(dwells, r.From(0, 15))
	}
	dwells[len(dwells)-1] = 0
	c, ok := sample.Course(p, way, sample.Tram(), runs, dwells)
	if !ok {
		t.Fatal(runs)
	}
	return c
}

// random returns a day that looks random, of one or two lines on streets that cross or lie side by side.
func random(t *testing.T, r *sample.Rand) api.Day {
	t.Helper()
	var paths [][]api.Spot
	for i := range 2 {
		x, y := r.From(-50000, 0), r.From(-3000, 3000)*i
		var path []api.Spot
		for range r.From(8, 12) {
			path = append(path, api.Spot{X: x, Y: y})
			x += r.From(9000, 25000)
			y += r.From(-3000, 3000)
		}
		path = append(path, api.Spot{X: x + 100000, Y: y})
		paths = append(paths, path)
	}
	p, ways := chains(paths...)
	d := api.Day{Plan: p}
	for i := range r.From(1, 2) {
		l := api.Line{Out: randomCourse(t, r, p, ways[i]), Home: randomCourse(t, r, p, backward(ways[i])), Train: sample.Tram(), Layover: r.From(0, 20)}
		h := r.From(40, 160)
		d.Service.Lines, d.Service.Headways, d.Service.Offsets = append(d.Service.Lines, l), append(d.Service.Headways, h), append(d.Service.Offsets, r.Below(h))
	}
	d.From = r.From(0, 100)
	d.Until = d.From + r.From(200, 600)
	for range r.From(0, 3) {
		b := api.Turnback{Line: r.Below(len(d.Service.Lines)), Home: r.Often(50), Seconds: r.From(1, 30)}
		l := d.Service.Lines[b.Line]
		stops, backs := len(l.Out.Stops), len(l.Home.Stops)
		if b.Home {
			stops, backs = backs, stops
		}
		b.Stop, b.Back = r.From(1, stops-2), r.From(1, backs-2)
		d.Turnbacks = append(d.Turnbacks, b)
	}
	if r.Often(30) {
		from := r.From(d.From, d.Until)
		d.Works = []api.Works{{Rail: r.Below(len(p.Rails)), From: from, Until: from + r.From(0, 100)}}
	}
	return d
}

// book is a day as the document defines it.
type book struct {
	api.Day
	trips   []api.Trip
	offsets map[[2]int][]int // by line, and 1 for Home
}

func newBook(t *testing.T, d api.Day) *book {
	t.Helper()
	b := &book{Day: d, offsets: map[[2]int][]int{}}
	var e api.Errno
	if b.trips, e = service.Trips(d.Plan, d.Service, d.Works, d.From, d.Until); e != api.OK {
		t.Fatal(e)
	}
	for i, l := range d.Service.Lines {
		b.offsets[[2]int{i, 0}], _ = service.Offsets(d.Plan, l, false)
		b.offsets[[2]int{i, 1}], _ = service.Offsets(d.Plan, l, true)
	}
	return b
}

func (b *book) course(trip int) (api.Course, []int) {
	x := b.trips[trip]
	if x.Home {
		return b.Service.Lines[x.Line].Home, b.offsets[[2]int{x.Line, 1}]
	}
	return b.Service.Lines[x.Line].Out, b.offsets[[2]int{x.Line, 0}]
}

func (b *book) published(trip, stop int) int {
	_, o := b.course(trip)
	return b.trips[trip].Depart + o[stop]
}

// cars returns the trips of each car, in the order of lines and cars.
func (b *book) cars() [][]int {
	var all [][]int
	for line := range b.Service.Lines {
		for car := range 10000 {
			var l []int
			for i, x := range b.trips {
				if x.Line == line && x.Car == car {
					l = append(l, i)
				}
			}
			if car > 200 {
				break
			}
			if len(l) > 0 {
				all = append(all, l)
			}
		}
	}
	return all
}

// TestCheck is for P10.1: days that are as defined, and others, for all functions.
func TestCheck(t *testing.T) {
	for name, c := range map[string]struct {
		do   func(d *api.Day)
		want api.Errno
	}{
		"as it is":               {func(d *api.Day) {}, api.OK},
		"broken plan":            {func(d *api.Day) { d.Plan.Rails[0].Limit = 0 }, api.ErrArg},
		"broken service":         {func(d *api.Day) { d.Service.Headways[0] = 29 }, api.ErrArg},
		"nothing":                {func(d *api.Day) { *d = api.Day{} }, api.ErrArg},
		"broken works":           {func(d *api.Day) { d.Works = []api.Works{{Rail: 1}} }, api.ErrArg},
		"100 works":              {func(d *api.Day) { d.Works = make([]api.Works, 100) }, api.OK},
		"101 works":              {func(d *api.Day) { d.Works = make([]api.Works, 101) }, api.ErrArg},
		"from -1":                {func(d *api.Day) { d.From = -1 }, api.ErrArg},
		"from after until":       {func(d *api.Day) { d.From = 701 }, api.ErrArg},
		"until too late":         {func(d *api.Day) { d.Until = 200001 }, api.ErrArg},
		"no turnbacks":           {func(d *api.Day) { d.Turnbacks = nil }, api.OK},
		"turnback of line 1":     {func(d *api.Day) { d.Turnbacks[0].Line = 1 }, api.ErrArg},
		"turnback of line -1":    {func(d *api.Day) { d.Turnbacks[0].Line = -1 }, api.ErrArg},
		"turnback at first":      {func(d *api.Day) { d.Turnbacks[0].Stop = 0 }, api.ErrArg},
		"turnback at last":       {func(d *api.Day) { d.Turnbacks[0].Stop = 2 }, api.ErrArg},
		"turnback to the first":  {func(d *api.Day) { d.Turnbacks[0].Back = 0 }, api.ErrArg},
		"turnback to the last":   {func(d *api.Day) { d.Turnbacks[0].Back = 2 }, api.ErrArg},
		"turnback of home":       {func(d *api.Day) { d.Turnbacks[0].Home = true }, api.OK},
		"turnback of 0 seconds":  {func(d *api.Day) { d.Turnbacks[0].Seconds = 0 }, api.ErrArg},
		"turnback of an hour":    {func(d *api.Day) { d.Turnbacks[0].Seconds = 3600 }, api.OK},
		"turnback of more":       {func(d *api.Day) { d.Turnbacks[0].Seconds = 3601 }, api.ErrArg},
		"60 turnbacks":           {func(d *api.Day) { d.Turnbacks = slices.Repeat(d.Turnbacks, 60) }, api.OK},
		"61 turnbacks":           {func(d *api.Day) { d.Turnbacks = slices.Repeat(d.Turnbacks, 61) }, api.ErrArg},
		"turnback far away":      {func(d *api.Day) { d.Turnbacks[0].Stop = math.MaxInt }, api.ErrArg},
		"many trips":             {func(d *api.Day) { d.Until = 60000 }, api.ErrLong},
		"more than layer 7 has":  {func(d *api.Day) { d.Service.Headways[0], d.Until = 30, 200000 }, api.ErrLong},
		"both":                   {func(d *api.Day) { d.Until = 60000; d.Turnbacks[0].Stop = 0 }, api.ErrArg},
		"both, and even more":    {func(d *api.Day) { d.Service.Headways[0], d.Until = 30, 200000; d.Turnbacks[0].Stop = 0 }, api.ErrArg},
		"no trips":               {func(d *api.Day) { d.Until = 100 }, api.OK},
		"works in the night":     {func(d *api.Day) { d.Works = []api.Works{{Until: 200000}} }, api.OK},
		"not all lines the same": {func(d *api.Day) { d.Service.Offsets = nil }, api.ErrArg},
	} {
		d := example(t)
		c.do(&d)
		if e := control.Check(d); e != c.want {
			t.Error(name, e)
		}
		if c.want == api.OK {
			continue
		}
		for i, e := range errors(d) {
			if e != c.want {
				t.Error(name, i, e)
			}
		}
	}
}

// errors returns the errors of all functions for a day, with arguments that are right; -1 if a result is not a zero value.
func errors(d api.Day) []api.Errno {
	z := api.Zones{Stops: []int{1, 1, 2, 1, 1, 1}}
	ticket := api.Ticket{Count: 2, Minutes: 60, Price: 30}
	ride := []api.Ride{{To: 1}}
	trips, e0 := control.Trips(d)
	uses, e1 := control.Uses(d, 0)
	meetings, e2 := control.Meetings(d, []api.Profile{{Half: 10}})
	times, e3 := control.Times(d, nil, nil)
	moment, e4 := control.Moment(d, nil)
	kept, e5 := control.Kept(d, nil, nil, 0)
	right, e6 := control.Right(d, nil, 0)
	stops, e7 := control.CutStops(d, nil)
	signs, e8 := control.Signs(d, nil, nil, 0, false, 0, 0)
	fare, sold, e9 := control.Fare(d, z, []api.Ticket{ticket}, ride)
	covers, e10 := control.Covers(d, z, ticket, ride)
	if len(trips)+len(uses)+len(meetings)+len(times)+moment+len(right)+stops+len(signs)+fare+len(sold) > 0 || kept || covers {
		return []api.Errno{-1}
	}
	return []api.Errno{e0, e1, e2, e3, e4, e5, e6, e7, e8, e9, e10}
}

// TestManyTrips is for P10.1: 1000 trips are allowed, one more is not; what is not as defined comes before.
func TestManyTrips(t *testing.T) {
	d := example(t)
	d.Until = 100000 // the day has a trip each 50 seconds, and ends with one that takes 120
	d.Until = 50*999 + 120
	if l, e := control.Trips(d); e != api.OK || len(l) != 1000 {
		t.Error(len(l), e)
	}
	d.Until++
	if l, e := control.Trips(d); e != api.OK || len(l) != 1000 {
		t.Error(len(l), e)
	}
	d.Until += 49
	if l, e := control.Trips(d); e != api.ErrLong || len(l) > 0 {
		t.Error(len(l), e)
	}
	// A trip out each headway, and one home, that arrive 120 seconds later.
	for headway, last := range map[int]int{100: 3997, 30: 13325} {
		d.Service.Headways[0], d.Until = headway, 200000
		for trip, want := range map[int]api.Errno{-1: api.ErrArg, 0: api.ErrLong, last: api.ErrLong, last + 1: api.ErrArg} {
			if _, e := control.Uses(d, trip); e != want {
				t.Error(headway, trip, e)
			}
			if _, e := control.Times(d, []api.Delay{{Trip: trip, Seconds: 5}}, nil); e != want {
				t.Error(headway, trip, e)
			}
		}
		if _, e := control.Meetings(d, nil); e != api.ErrArg {
			t.Error(e)
		}
		if _, e := control.Kept(d, nil, nil, -1); e != api.ErrArg {
			t.Error(e)
		}
	}
}

// TestTrips is for P10.1: the trips are those of layer 7.
func TestTrips(t *testing.T) {
	d := example(t)
	l, e := control.Trips(d)
	if e != api.OK || len(l) != 12 {
		t.Fatal(l, e)
	}
	for i, x := range l {
		if x.Depart != 50*i || x.Home != (i%2 == 1) {
			t.Error(i, x)
		}
	}
	for i, trip := range []int{0, 3, 6, 9} {
		if x := l[trip]; x.Car != 0 {
			t.Error(i, x)
		}
	}
	for seed := range 10 {
		d := random(t, sample.New(seed))
		if l, e := control.Trips(d); e != api.OK || !slices.Equal(l, newBook(t, d).trips) {
			t.Fatal(seed, l, e)
		}
	}
}

// usesOf returns what a trip uses, as the document defines it.
func (b *book) usesOf(t *testing.T, trip int) []api.Use {
	t.Helper()
	c, o := b.course(trip)
	on := func(x int) int { // the index of the move on which a place lies
		begin := 0
		for i, m := range c.Way {
			length, _ := track.Length(b.Plan, m.Rail)
			if begin < x && x <= begin+length {
				return i
			}
			begin += length
		}
		t.Fatal("there is no such place")
		return 0
	}
	var l []api.Use
	depart := b.trips[trip].Depart
	for s := 0; s+1 < len(c.Stops); s++ {
		if s > 0 && c.Dwells[s] > 0 {
			l = append(l, api.Use{Rail: c.Way[on(c.Stops[s])].Rail, From: depart + o[s] - c.Dwells[s], Until: depart + o[s]})
		}
		for i := on(c.Stops[s]); i <= on(c.Stops[s+1]); i++ {
			l = append(l, api.Use{Rail: c.Way[i].Rail, From: depart + o[s], Until: depart + o[s+1] - c.Dwells[s+1]})
		}
	}
	return l
}

// TestUses is for P10.1.
func TestUses(t *testing.T) {
	d := example(t)
	if l, e := control.Uses(d, 2); e != api.OK || !slices.Equal(l, []api.Use{{From: 100, Until: 160}, {From: 160, Until: 180}, {From: 180, Until: 220}}) {
		t.Error(l, e)
	}
	for _, trip := range []int{-1, 12, math.MaxInt, math.MinInt} {
		if l, e := control.Uses(d, trip); len(l) > 0 || e != api.ErrArg {
			t.Error(trip, l, e)
		}
	}
	several := 0
	for seed := range 12 {
		d := random(t, sample.New(seed))
		b := newBook(t, d)
		for trip := range b.trips {
			l, e := control.Uses(d, trip)
			if e != api.OK || !slices.Equal(l, b.usesOf(t, trip)) {
				t.Fatal(seed, trip, l, b.usesOf(t, trip), e)
			}
			several = max(several, len(l))
		}
	}
	if several < 8 {
		t.Error("the samples are too simple:", several)
	}
}

// TestStopsAtBorders is for P10.1: a stop where two rails meet lies on the one before.
func TestStopsAtBorders(t *testing.T) {
	p, ways := chains([]api.Spot{{}, {X: 30000}, {X: 60000}, {X: 90000}, {X: 300000}})
	back, ok := sample.Course(p, backward(ways[0]), sample.Tram(), []int{10, 10}, []int{0, 5, 0})
	if !ok {
		t.Fatal("there is no such course")
	}
	l := api.Line{Out: api.Course{Way: ways[0], Stops: []int{30000, 60000, 60001, 90000}, Dwells: []int{0, 7, 7, 0}}, Home: back, Train: sample.Tram()}
	d := api.Day{Plan: p, Service: api.Service{Lines: []api.Line{l}, Headways: []int{300}, Offsets: []int{0}}, Until: 300}
	o, e := service.Offsets(p, l, false)
	if e != api.OK {
		t.Fatal(e)
	}
	want := []api.Use{{Rail: 0, Until: o[1] - 7}, {Rail: 1, Until: o[1] - 7}, {Rail: 1, From: o[1] - 7, Until: o[1]}, {Rail: 1, From: o[1], Until: o[2] - 7}, {Rail: 2, From: o[1], Until: o[2] - 7}, {Rail: 2, From: o[2] - 7, Until: o[2]}, {Rail: 2, From: o[2], Until: o[3]}}
	if uses, e := control.Uses(d, 0); e != api.OK || !slices.Equal(uses, want) {
		t.Error(uses, want, e)
	}
}

// meetingsOf returns the meetings, second by second.
func (b *book) meetingsOf(t *testing.T, profiles []api.Profile, fouls map[[4]int]bool) []api.Meeting {
	t.Helper()
	var uses [][]api.Use
	for trip := range b.trips {
		uses = append(uses, b.usesOf(t, trip))
	}
	var l []api.Meeting
	for i := range uses {
		for k := i + 1; k < len(uses); k++ {
			first := -1
			x, y := b.trips[i].Line%len(profiles), b.trips[k].Line%len(profiles)
			for _, u := range uses[i] {
				for _, v := range uses[k] {
					at := max(u.From, v.From)
					if at < u.Until && at < v.Until && fouls[[4]int{u.Rail, x, v.Rail, y}] && (first < 0 || at < first) {
						first = at
					}
				}
			}
			if first >= 0 {
				l = append(l, api.Meeting{A: i, B: k, At: first})
			}
		}
	}
	return l
}

// TestMeetings is for P10.1: meetings against all seconds; who does not meet holds no rails that foul each other.
func TestMeetings(t *testing.T) {
	total := 0
	for seed := range 25 {
		r := sample.New(seed)
		d := random(t, r)
		var profiles []api.Profile
		for range r.From(1, 3) {
			profiles = append(profiles, api.Profile{Half: r.From(1, 1200), Swing: r.From(0, 300)})
		}
		b := newBook(t, d)
		fouls := foulsOf(t, d.Plan, profiles)
		want := b.meetingsOf(t, profiles, fouls)
		l, e := control.Meetings(d, profiles)
		if e != api.OK || !slices.Equal(l, want) {
			t.Fatal(seed, l, want, e)
		}
		total += len(l)
	}
	if total < 20 {
		t.Error("the samples are too simple:", total)
	}
	d := example(t)
	if l, e := control.Meetings(d, []api.Profile{{Half: 1}}); e != api.OK || len(l) == 0 || l[0] != (api.Meeting{A: 0, B: 1, At: 50}) { // all on one rail
		t.Error(l, e)
	}
	for _, profiles := range [][]api.Profile{nil, {{}}, slices.Repeat([]api.Profile{{Half: 1}}, 7), {{Half: 1}, {Half: 1, Swing: -1}}} {
		if l, e := control.Meetings(d, profiles); len(l) > 0 || e != api.ErrArg {
			t.Error(profiles, l, e)
		}
	}
}

// TestMemory is for P10.1 and P10.2: results share no memory.
func TestMemory(t *testing.T) {
	d := example(t)
	before := example(t)
	control.Right(d, []api.Delay{{Seconds: 100}}, 451)
	if !reflect.DeepEqual(d, before) {
		t.Error("the day has changed")
	}
	l, _ := control.Trips(d)
	l[0].Depart = 7
	if k, _ := control.Trips(d); k[0].Depart != 0 {
		t.Error("trips share memory")
	}
}
