package control_test

import (
	"cmp"
	"math"
	"slices"
	"testing"

	"tramline/api"
	"tramline/control"
	"tramline/sample"
	"tramline/sweep"
)

// foulsOf returns all pairs of rails and profiles that are foul, in both orders.
func foulsOf(t *testing.T, p api.Plan, profiles []api.Profile) map[[4]int]bool {
	t.Helper()
	l, e := sweep.Fouls(p, profiles)
	if e != api.OK {
		t.Fatal(e)
	}
	m := map[[4]int]bool{}
	for _, f := range l {
		m[[4]int{f.RailA, f.ProfileA, f.RailB, f.ProfileB}] = true
		m[[4]int{f.RailB, f.ProfileB, f.RailA, f.ProfileA}] = true
	}
	return m
}

// lateDay is what delays and cuts make of a car's trips.
type lateDay struct {
	stands map[int][]api.Stand
	cut    map[[2]int]bool // departures that are not run, by trip and stop
}

// run runs the trips of a car; chosen has the turnback of each trip, or -1. It reports whether such cuts are as defined.
func (b *book) run(car []int, chosen []int, delays []api.Delay) (lateDay, bool) {
	day := lateDay{stands: map[int][]api.Stand{}, cut: map[[2]int]bool{}}
	begin, ready := 0, -1
	for i, trip := range car {
		c, o := b.course(trip)
		last := len(c.Stops) - 1
		end, wait, back := last, b.Service.Lines[b.trips[trip].Line].Layover, 0
		if chosen[i] >= 0 {
			x := b.Turnbacks[chosen[i]]
			if x.Line != b.trips[trip].Line || x.Home != b.trips[trip].Home || x.Stop <= begin || i+1 == len(car) || b.trips[car[i+1]].Home == x.Home {
				return day, false
			}
			end, wait, back = x.Stop, x.Seconds, x.Back
		}
		stands := make([]api.Stand, last+1)
		for s := range stands {
			stands[s].Cut = s < begin || s > end
			if s < last && (s < begin || s >= end) {
				day.cut[[2]int{trip, s}] = true
			}
		}
		for s := begin; s <= end; s++ {
			if s > begin {
				stands[s].Arrive = stands[s-1].Depart + o[s] - c.Dwells[s] - o[s-1]
				ready = stands[s].Arrive + int(math.Ceil(float64(c.Dwells[s])/2))
			}
			if s == end {
				break
			}
			stands[s].Depart = max(b.published(trip, s), ready)
			for _, x := range delays {
				if x.Trip == trip && x.Stop == s {
					stands[s].Depart += x.Seconds
				}
			}
		}
		day.stands[trip] = stands
		begin, ready = back, stands[end].Arrive+wait
	}
	return day, true
}

// moment returns from when on published times of a car are kept.
func (b *book) moment(car []int, day lateDay) int {
	moment := 0
	for _, trip := range car {
		c, _ := b.course(trip)
		for s := range len(c.Stops) - 1 {
			if at := b.published(trip, s); day.cut[[2]int{trip, s}] || day.stands[trip][s].Depart > at {
				moment = max(moment, at+1)
			}
		}
	}
	return moment
}

// choices calls a function for all choices of turnbacks for so many trips, in lexicographic order.
func choices(trips, turnbacks int, do func([]int)) {
	all := 1
	for range trips {
		all *= turnbacks + 1
	}
	for n := range all {
		l := make([]int, trips)
		for i, left := trips-1, n; i >= 0; i-- {
			l[i], left = left%(turnbacks+1)-1, left/(turnbacks+1)
		}
		do(l)
	}
}

func randomDelays(r *sample.Rand, b *book) []api.Delay {
	var l []api.Delay
	if len(b.trips) == 0 {
		return l
	}
	for range r.From(0, 4) {
		trip := r.Below(len(b.trips))
		c, _ := b.course(trip)
		l = append(l, api.Delay{Trip: trip, Stop: r.Below(len(c.Stops) - 1), Seconds: r.From(1, 80)})
	}
	return l
}

// randomCuts returns cuts that are as defined, and the choices of each car.
func randomCuts(r *sample.Rand, b *book) ([]api.CutShort, [][]int) {
	var l []api.CutShort
	var all [][]int
	for _, car := range b.cars() {
		chosen := slices.Repeat([]int{-1}, len(car))
		for i := range chosen {
			if len(b.Turnbacks) > 0 && r.Often(40) {
				chosen[i] = r.Below(len(b.Turnbacks))
				if _, ok := b.run(car, chosen, nil); !ok {
					chosen[i] = -1
				}
			}
			if chosen[i] >= 0 {
				l = append(l, api.CutShort{Trip: car[i], Turnback: chosen[i]})
			}
		}
		all = append(all, chosen)
	}
	slices.SortFunc(l, func(x, y api.CutShort) int { return x.Trip - y.Trip })
	return l, all
}

// TestTimesExamples is for P10.2 and P10.3.
func TestTimesExamples(t *testing.T) {
	d := example(t)
	late := []api.Delay{{Seconds: 100}}
	times, e := control.Times(d, late, nil)
	if e != api.OK || len(times) != 12 {
		t.Fatal(times, e)
	}
	for trip, want := range map[int][2]int{0: {100, 170}, 3: {240, 295}, 6: {385, 455}, 9: {525, 580}, 1: {50, 110}} {
		if x := times[trip]; x[0].Depart != want[0] || x[1].Depart != want[1] {
			t.Error(trip, x)
		}
	}
	for i, l := range [][]api.Delay{late, nil} {
		if n, e := control.Moment(d, l); n != []int{511, 0}[i] || e != api.OK {
			t.Error(l, n, e)
		}
	}
	for from, want := range map[int][]api.CutShort{511: nil, 451: {{Trip: 6}}, 151: {{Trip: 0}}} {
		if c, e := control.Right(d, late, from); e != api.OK || !slices.Equal(c, want) {
			t.Error(from, c, e)
		}
	}
	if c, e := control.Right(d, late, 150); e != api.ErrNone || len(c) > 0 {
		t.Error(c, e)
	}
	cut := []api.CutShort{{}}
	if n, e := control.CutStops(d, cut); n != 2 || e != api.OK {
		t.Error(n, e)
	}
	times, e = control.Times(d, late, cut)
	if e != api.OK || !slices.Equal(times[0], []api.Stand{{Depart: 100}, {Arrive: 160}, {Cut: true}}) || !slices.Equal(times[3], []api.Stand{{Cut: true}, {Depart: 210}, {Arrive: 270}}) {
		t.Error(times[0], times[3], e)
	}
}

// TestTimes is for P10.2 and P10.6: actual times and moments against the definition, car by car.
func TestTimes(t *testing.T) {
	cutTrips := 0
	for seed := range 40 {
		r := sample.New(seed)
		d := random(t, r)
		b := newBook(t, d)
		l := randomDelays(r, b)
		cuts, chosen := randomCuts(r, b)
		cutTrips += len(cuts)
		times, e := control.Times(d, l, cuts)
		plain, e1 := control.Times(d, nil, nil)
		if e != api.OK || e1 != api.OK || len(times) != len(b.trips) {
			t.Fatal(seed, times, e, e1)
		}
		stops, moment := 0, 0
		for i, car := range b.cars() {
			day, ok := b.run(car, chosen[i], l)
			if !ok {
				t.Fatal(seed, chosen[i])
			}
			stops += len(day.cut)
			moment = max(moment, b.moment(car, day))
			for _, trip := range car {
				if !slices.Equal(times[trip], day.stands[trip]) {
					t.Fatal(seed, trip, times[trip], day.stands[trip])
				}
				for s, x := range times[trip] {
					if x.Depart != 0 && x.Depart < b.published(trip, s) || s+1 < len(times[trip]) && plain[trip][s].Depart != b.published(trip, s) {
						t.Fatal(seed, trip, s, x, plain[trip][s])
					}
				}
			}
		}
		if n, e := control.CutStops(d, cuts); n != stops || e != api.OK {
			t.Fatal(seed, n, stops, e)
		}
		for _, from := range []int{0, moment - 1, moment, moment + 1, 1000000} {
			if from < 0 {
				continue
			}
			if is, e := control.Kept(d, l, cuts, from); e != api.OK || is != (from >= moment) {
				t.Fatal(seed, from, moment, is, e)
			}
		}
		checkMoreDelay(t, seed, r, d, b, l, cuts, times)
	}
	if cutTrips < 20 {
		t.Error("the samples are too simple:", cutTrips)
	}
}

// checkMoreDelay checks that more delay makes no departure earlier, and changes no other car.
func checkMoreDelay(t *testing.T, seed int, r *sample.Rand, d api.Day, b *book, l []api.Delay, cuts []api.CutShort, times [][]api.Stand) {
	t.Helper()
	if len(b.trips) == 0 {
		return
	}
	late := r.Below(len(b.trips))
	more, e := control.Times(d, append(slices.Clone(l), api.Delay{Trip: late, Seconds: r.From(1, 200)}), cuts)
	if e != api.OK {
		t.Fatal(seed, e)
	}
	for trip, x := range more {
		same := b.trips[trip].Line == b.trips[late].Line && b.trips[trip].Car == b.trips[late].Car
		for s := range x {
			if x[s].Depart < times[trip][s].Depart || !same && x[s] != times[trip][s] {
				t.Fatal(seed, trip, s, x[s], times[trip][s])
			}
		}
	}
}

// TestMoment is for P10.2: the moment of delays without cuts.
func TestMoment(t *testing.T) {
	for seed := range 20 {
		r := sample.New(seed)
		d := random(t, r)
		b := newBook(t, d)
		l := randomDelays(r, b)
		want := 0
		for _, car := range b.cars() {
			day, _ := b.run(car, slices.Repeat([]int{-1}, len(car)), l)
			want = max(want, b.moment(car, day))
		}
		if n, e := control.Moment(d, l); n != want || e != api.OK {
			t.Fatal(seed, n, want, e)
		}
	}
}

// rightOf returns the best cuts by trying all of them, car by car; and whether the first ones that do are not the best ones for some car.
func (b *book) rightOf(delays []api.Delay, from int) (all []api.CutShort, ok, dearer bool) {
	for _, car := range b.cars() {
		var best []int
		cost, first := -1, -1
		choices(len(car), len(b.Turnbacks), func(chosen []int) {
			day, ok := b.run(car, chosen, delays)
			if !ok || b.moment(car, day) > from {
				return
			}
			if first < 0 {
				first = len(day.cut)
			}
			if cost < 0 || len(day.cut) < cost {
				best, cost = chosen, len(day.cut)
			}
		})
		if cost < 0 {
			return nil, false, false
		}
		dearer = dearer || cost < first
		for i, x := range best {
			if x >= 0 {
				all = append(all, api.CutShort{Trip: car[i], Turnback: x})
			}
		}
	}
	slices.SortFunc(all, func(x, y api.CutShort) int { return cmp.Compare(x.Trip, y.Trip) })
	return all, true, dearer
}

// moreTurnbacks adds turnbacks of the first line, up to four.
func moreTurnbacks(r *sample.Rand, d *api.Day) {
	for len(d.Turnbacks) < 4 {
		t := api.Turnback{Home: r.Often(50), Seconds: r.From(1, 10)}
		first, second := d.Service.Lines[0].Out, d.Service.Lines[0].Home
		if t.Home {
			first, second = second, first
		}
		t.Stop, t.Back = r.From(1, len(first.Stops)-2), r.From(1, len(second.Stops)-2)
		d.Turnbacks = append(d.Turnbacks, t)
	}
}

// tightDay returns a day of one car that has hardly any time to spare, with several turnbacks in both directions.
func tightDay(t *testing.T, r *sample.Rand) api.Day {
	t.Helper()
	var runs, dwells [2][]int
	round := 0
	for d := range runs {
		for range r.From(3, 5) {
			runs[d], dwells[d] = append(runs[d], r.From(4, 12)), append(dwells[d], r.From(0, 6))
			round += runs[d][len(runs[d])-1]
		}
		dwells[d] = append(dwells[d], 0)
		dwells[d][0] = 0
		for _, x := range dwells[d] {
			round += x
		}
	}
	l, ok := sample.Line(runs[0], dwells[0], runs[1], dwells[1], r.From(0, 3))
	if !ok {
		t.Fatal(runs)
	}
	h := max(30, round+2*l.Layover+r.From(0, 3))
	d := api.Day{Plan: sample.Street(), Service: api.Service{Lines: []api.Line{l}, Headways: []int{h}, Offsets: []int{0}}, Until: 5*h/2 + h/4}
	moreTurnbacks(r, &d)
	return d
}

// TestRight is for P10.3 and P10.6: the best cuts against all cuts.
func TestRight(t *testing.T) {
	seen := map[int]int{}
	notFirst := 0
	for seed := range 70 {
		r := sample.New(seed)
		var d api.Day
		if seed%6 == 0 {
			d = random(t, r)
		} else {
			d = tightDay(t, r)
		}
		b := newBook(t, d)
		if slices.ContainsFunc(b.cars(), func(car []int) bool { return len(car) > 5 }) {
			continue
		}
		for range 6 {
			l := randomDelays(r, b)
			if seed%3 == 2 && len(b.trips) > 1 { // so late that one cut hardly suffices
				l = []api.Delay{{Seconds: r.From(20, 120)}, {Trip: 1, Seconds: r.From(1, 40)}}
			}
			moment, _ := control.Moment(d, l)
			for _, from := range []int{moment - 1, moment - r.From(1, 90), moment} {
				if from < 0 {
					continue
				}
				want, ok, dearer := b.rightOf(l, from)
				if dearer {
					notFirst++
				}
				cuts, e := control.Right(d, l, from)
				if ok != (e == api.OK) || !ok && (e != api.ErrNone || len(cuts) > 0) || !slices.Equal(cuts, want) {
					t.Fatal(seed, from, cuts, want, e)
				}
				if !ok {
					seen[-1]++
					continue
				}
				seen[len(cuts)]++
				checkRight(t, r, d, l, cuts, from, moment)
			}
		}
	}
	if seen[-1] < 20 || seen[0] < 20 || seen[1] < 20 || seen[2]+seen[3] < 30 || notFirst < 20 {
		t.Error("the samples are too simple:", seen, notFirst)
	}
}

// checkRight checks that cuts put a day right, and that a later moment needs no more of them.
func checkRight(t *testing.T, r *sample.Rand, d api.Day, l []api.Delay, cuts []api.CutShort, from, moment int) {
	t.Helper()
	if is, e := control.Kept(d, l, cuts, from); !is || e != api.OK || from >= moment && len(cuts) > 0 {
		t.Fatal(from, cuts, is, e)
	}
	n, _ := control.CutStops(d, cuts)
	later, e := control.Right(d, l, from+r.From(1, 50))
	if m, _ := control.CutStops(d, later); e != api.OK || m > n {
		t.Fatal(from, later, cuts, e)
	}
}

// TestGreatRight is for P10.3: a long day of one car with many stops, many turnbacks and many delays.
func TestGreatRight(t *testing.T) {
	r := sample.New(10)
	var runs, dwells [2][]int
	round := 0
	for d := range runs {
		dwells[d] = []int{0}
		for range 15 {
			runs[d], dwells[d] = append(runs[d], r.From(5, 12)), append(dwells[d], r.From(0, 9))
			round += runs[d][len(runs[d])-1] + dwells[d][len(dwells[d])-1]
		}
		round -= dwells[d][15]
		dwells[d][15] = 0
	}
	l, ok := sample.Line(runs[0], dwells[0], runs[1], dwells[1], 0)
	if !ok {
		t.Fatal(runs)
	}
	d := api.Day{Plan: sample.Street(), Service: api.Service{Lines: []api.Line{l}, Headways: []int{round + 10}, Offsets: []int{0}}, Until: 480 * (round + 10)}
	for i := range 60 {
		d.Turnbacks = append(d.Turnbacks, api.Turnback{Home: i%2 == 1, Stop: r.From(1, 14), Back: r.From(1, 14), Seconds: r.From(1, 60)})
	}
	var delays []api.Delay
	for range 200 {
		delays = append(delays, api.Delay{Trip: r.Below(800), Stop: r.Below(15), Seconds: r.From(1, 300)})
	}
	moment, e := control.Moment(d, delays)
	if e != api.OK {
		t.Fatal(e)
	}
	last := 0
	for _, from := range []int{moment, moment - 1, moment * 98 / 100, moment * 95 / 100} {
		cuts, e := control.Right(d, delays, from)
		is, e1 := control.Kept(d, delays, cuts, from)
		n, e2 := control.CutStops(d, cuts)
		if e != api.OK || e1 != api.OK || e2 != api.OK || !is || n < last || (n == 0) != (from == moment) {
			t.Fatal(from, cuts, n, is, e, e1, e2)
		}
		last = n
	}
}

// TestCutArguments is for P10.2 and P10.3: delays, cuts and moments that are not as defined.
func TestCutArguments(t *testing.T) {
	d := example(t)
	d.Turnbacks = append(d.Turnbacks, api.Turnback{Home: true, Stop: 1, Back: 1, Seconds: 5})
	for i, c := range []struct {
		l    []api.Delay
		want api.Errno
	}{
		{[]api.Delay{{Trip: 11, Stop: 1, Seconds: 20000}}, api.OK}, {[]api.Delay{{Trip: 12, Seconds: 1}}, api.ErrArg}, {[]api.Delay{{Trip: -1, Seconds: 1}}, api.ErrArg}, {[]api.Delay{{Stop: 2, Seconds: 1}}, api.ErrArg}, {[]api.Delay{{Stop: -1, Seconds: 1}}, api.ErrArg},
		{[]api.Delay{{}}, api.ErrArg}, {[]api.Delay{{Seconds: 20001}}, api.ErrArg}, {slices.Repeat([]api.Delay{{Seconds: 1}}, 200), api.OK}, {slices.Repeat([]api.Delay{{Seconds: 1}}, 201), api.ErrArg}, {[]api.Delay{{Trip: math.MinInt, Stop: math.MaxInt, Seconds: math.MaxInt}}, api.ErrArg},
	} {
		times, e0 := control.Times(d, c.l, nil)
		_, e1 := control.Moment(d, c.l)
		_, e2 := control.Kept(d, c.l, nil, 0)
		_, e3 := control.Right(d, c.l, 1000000)
		_, e4 := control.Signs(d, c.l, nil, 0, false, 0, 0)
		if e0 != c.want || e1 != c.want || e2 != c.want || e3 != c.want || e4 != c.want || e0 != api.OK && len(times) > 0 {
			t.Error(i, e0, e1, e2, e3, e4)
		}
	}
	for i, c := range []struct {
		l    []api.CutShort
		want api.Errno
	}{
		{[]api.CutShort{{Trip: 0}, {Trip: 1, Turnback: 1}, {Trip: 2}}, api.OK},
		{[]api.CutShort{{Trip: 0}, {Trip: 0}}, api.ErrArg}, {[]api.CutShort{{Trip: 2}, {Trip: 0}}, api.ErrArg}, {[]api.CutShort{{Trip: -1}}, api.ErrArg}, {[]api.CutShort{{Trip: 12}}, api.ErrArg},
		{[]api.CutShort{{Turnback: 2}}, api.ErrArg}, {[]api.CutShort{{Turnback: -1}}, api.ErrArg}, {[]api.CutShort{{Turnback: 1}}, api.ErrArg}, {[]api.CutShort{{Trip: 1}}, api.ErrArg},
		{[]api.CutShort{{Trip: 8}}, api.OK},                             // the car 1 goes home with the trip 11
		{[]api.CutShort{{Trip: 10}}, api.ErrArg},                        // nothing comes after it
		{[]api.CutShort{{Trip: 0}, {Trip: 3, Turnback: 1}}, api.ErrArg}, // it begins where it would end
		{[]api.CutShort{{Trip: 0}, {Trip: 6}}, api.OK},
		{[]api.CutShort{{Trip: math.MaxInt, Turnback: math.MinInt}}, api.ErrArg},
	} {
		_, e0 := control.Times(d, nil, c.l)
		_, e1 := control.Kept(d, nil, c.l, 0)
		_, e2 := control.CutStops(d, c.l)
		_, e3 := control.Signs(d, nil, c.l, 0, false, 0, 0)
		if e0 != c.want || e1 != c.want || e2 != c.want || e3 != c.want {
			t.Error(i, e0, e1, e2, e3)
		}
	}
	for from, want := range map[int]api.Errno{-1: api.ErrArg, 0: api.OK, 1000000: api.OK, 1000001: api.ErrArg} {
		_, e0 := control.Kept(d, nil, nil, from)
		_, e1 := control.Right(d, nil, from)
		_, e2 := control.Signs(d, nil, nil, 0, false, 0, from)
		if e0 != want || e1 != want || e2 != want {
			t.Error(from, e0, e1, e2)
		}
	}
}

// TestSameDirection is for P10.3: after works, a car may run twice in the same direction; then it cannot be cut.
func TestSameDirection(t *testing.T) {
	d := example(t)
	d.Works = []api.Works{{From: 160, Until: 161}} // it stops the trips from 50 to 150 on
	l, e := control.Trips(d)
	if e != api.OK {
		t.Fatal(e)
	}
	first := slices.IndexFunc(l, func(x api.Trip) bool { return x.Car == 0 })
	next := slices.IndexFunc(l, func(x api.Trip) bool { return x.Car == 0 && x.Depart > l[first].Depart })
	if l[next].Home {
		t.Fatal(l)
	}
	if _, e := control.CutStops(d, []api.CutShort{{Trip: first}}); e != api.ErrArg {
		t.Error(e)
	}
}

// TestSigns is for P10.4: the example, and all departures of a stop.
func TestSigns(t *testing.T) {
	d := example(t)
	want := []api.Shown{{Trip: 3, Published: 150, Cut: true}, {Trip: 5, Published: 250, Actual: 250}, {Trip: 7, Published: 350, Actual: 350}, {Trip: 9, Published: 450, Actual: 450}, {Trip: 11, Published: 550, Actual: 550}}
	late, cut := []api.Delay{{Seconds: 100}}, []api.CutShort{{}}
	if l, e := control.Signs(d, late, cut, 0, true, 0, 150); e != api.OK || !slices.Equal(l, want) {
		t.Error(l, e)
	}
	if l, e := control.Signs(d, late, cut, 0, true, 0, 151); e != api.OK || !slices.Equal(l, want[1:]) { // what is cut counts by its published time
		t.Error(l, e)
	}
	if l, e := control.Signs(d, late, nil, 0, false, 0, 100); e != api.OK || l[0] != (api.Shown{Actual: 100}) { // late, but still to come
		t.Error(l, e)
	}
	if l, e := control.Signs(d, late, cut, 0, false, 1, 80); e != api.OK || l[0] != (api.Shown{Published: 80, Cut: true}) { // the trip ends there
		t.Error(l, e)
	}
	for _, c := range []struct {
		line int
		stop int
	}{{-1, 0}, {1, 0}, {0, -1}, {0, 2}, {math.MaxInt, math.MinInt}} {
		if l, e := control.Signs(d, nil, nil, c.line, false, c.stop, 0); len(l) > 0 || e != api.ErrArg {
			t.Error(c, l, e)
		}
	}
	for seed := range 25 {
		r := sample.New(seed)
		d := random(t, r)
		b := newBook(t, d)
		l := randomDelays(r, b)
		cuts, _ := randomCuts(r, b)
		times, _ := control.Times(d, l, cuts)
		line, home, second := r.Below(len(d.Service.Lines)), r.Often(50), r.From(0, 700)
		c := d.Service.Lines[line].Out
		if home {
			c = d.Service.Lines[line].Home
		}
		stop := r.Below(len(c.Stops) - 1)
		var want []api.Shown
		for trip, x := range b.trips {
			if x.Line != line || x.Home != home {
				continue
			}
			s := api.Shown{Trip: trip, Published: b.published(trip, stop), Actual: times[trip][stop].Depart}
			s.Cut = s.Actual == 0 && (times[trip][stop].Cut || times[trip][stop].Arrive > 0)
			if s.Published >= second || s.Actual >= second {
				want = append(want, s)
			}
		}
		if got, e := control.Signs(d, l, cuts, line, home, stop, second); e != api.OK || !slices.Equal(got, want) {
			t.Fatal(seed, got, want, e)
		}
	}
}
