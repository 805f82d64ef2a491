package service_test

import (
	"math"
	"slices"
	"testing"

	"tramline/api"
	"tramline/sample"
	"tramline/service"
)

// TestLong is for P7.2: 5000 trips are allowed, one more is not.
func TestLong(t *testing.T) {
	p, l := example(t)
	s := one(l, 60, 0)
	count := func(until int) int { return len(day(t, p, s, nil, 0, until)) }
	low, high := 0, 200000
	for low < high { // the least time with more than 5000
		if middle := (low + high) / 2; count(middle) > 5000 {
			high = middle
		} else {
			low = middle + 1
		}
	}
	if trips, e := service.Trips(p, s, nil, 0, low-1); len(trips) != 5000 || e != api.OK {
		t.Error(len(trips), e)
	}
	if trips, e := service.Trips(p, s, nil, 0, low); len(trips) != 0 || e != api.ErrLong {
		t.Error(len(trips), e)
	}
	if trips, e := service.Trips(p, s, []api.Works{{From: 500, Until: 500}}, 0, low); len(trips) > 5000 || e != api.OK {
		t.Error(len(trips), e)
	}
}

// TestLast is for P7.2 and P7.5: last trips against the trips of the day; works make them no later.
func TestLast(t *testing.T) {
	p := sample.Street()
	none := 0
	for seed := range 60 {
		r := sample.New(seed)
		s := one(random(t, r), r.From(30, 400), 0)
		s.Offsets[0] = r.Below(s.Headways[0])
		var works []api.Works
		for range r.Below(4) {
			from := r.From(0, 1500)
			works = append(works, api.Works{From: from, Until: r.From(from, 2000)})
		}
		home, before := r.Often(50), r.From(0, 2000)
		var want []api.Trip
		for _, trip := range day(t, p, s, works, 0, before) {
			if trip.Home == home {
				want = []api.Trip{trip}
			}
		}
		got, e := service.Last(p, s, works, 0, home, before)
		if len(want) == 0 && (e != api.ErrNone || got != (api.Trip{})) || len(want) > 0 && (e != api.OK || got != want[0]) {
			t.Fatal(seed, got, want, e)
		}
		if len(want) == 0 {
			none++
		}
		more, e1 := service.Last(p, s, append(works, api.Works{From: r.From(0, 1000), Until: 1500}), 0, home, before)
		if e == api.OK && e1 == api.OK && more.Depart > got.Depart || e != api.OK && e1 == api.OK {
			t.Fatal(seed, got, more)
		}
	}
	if none == 0 {
		t.Error("there always is a last trip")
	}
	_, l := example(t)
	s := one(l, 100, 0)
	for _, c := range []struct{ line, before int }{{-1, 100}, {1, 100}, {0, -1}, {0, 200001}, {math.MinInt, math.MaxInt}} {
		if trip, e := service.Last(p, s, nil, c.line, false, c.before); trip != (api.Trip{}) || e != api.ErrArg {
			t.Error(c, trip, e)
		}
	}
	for before, want := range map[int]api.Errno{0: api.ErrNone, 119: api.ErrNone, 120: api.OK, 200000: api.OK} {
		if trip, e := service.Last(p, s, nil, 0, false, before); e != want {
			t.Error(before, trip, e)
		}
	}
}

// TestWorksElsewhere is for P7.2: works concern only courses over their rail.
func TestWorksElsewhere(t *testing.T) {
	p, l := example(t)
	other := sample.Lines([]api.Spot{{Y: 5000000}, {X: 1000, Y: 5000000}})
	p.Nodes, p.Rails = append(p.Nodes, other.Nodes...), append(p.Rails, other.Rails...)
	p.Rails[1].From, p.Rails[1].To = 2, 3
	p.Nodes[2].Ends, p.Nodes[3].Ends = []api.RailEnd{{Rail: 1}}, []api.RailEnd{{Rail: 1, Last: true}}
	s := one(l, 100, 0)
	all, e0 := service.Trips(p, s, nil, 0, 1000)
	same, e1 := service.Trips(p, s, []api.Works{{Rail: 1, Until: 200000}}, 0, 1000)
	less, e2 := service.Trips(p, s, []api.Works{{Rail: 0, Until: 200000}}, 0, 1000)
	if e0 != api.OK || e1 != api.OK || e2 != api.OK || len(all) == 0 || !slices.Equal(all, same) || len(less) > 0 {
		t.Error(len(all), len(same), len(less), e0, e1, e2)
	}
	// A trip from 100 to 220 may not run for works of no duration at 219 or 101, but for such at 220 or 100.
	for at, want := range map[int]bool{100: true, 101: false, 219: false, 220: true} {
		trips, _ := service.Trips(p, s, []api.Works{{From: at, Until: at}}, 0, 1000)
		if slices.ContainsFunc(trips, func(x api.Trip) bool { return !x.Home && x.Depart == 100 }) != want {
			t.Error(at, trips)
		}
	}
}

// waitOf returns the wait of a connection by looking for it, second by second.
func waitOf(t *testing.T, p api.Plan, s api.Service, c api.Connection) int {
	t.Helper()
	h := s.Headways[0]
	from, _, _ := base(t, p, s, c.FromLine, c.FromHome)
	to, _, _ := base(t, p, s, c.ToLine, c.ToHome)
	a, _ := service.Offsets(p, s.Lines[c.FromLine], c.FromHome)
	b, _ := service.Offsets(p, s.Lines[c.ToLine], c.ToHome)
	arrival := from + a[c.FromStop] - course(s.Lines[c.FromLine], c.FromHome).Dwells[c.FromStop]
	departure := to + b[c.ToStop]
	for w := c.Least; w < c.Least+h; w++ {
		if (arrival+w-departure)%h == 0 {
			return w
		}
	}
	t.Fatal("there is no wait")
	return -1
}

func randomConnection(r *sample.Rand, lines []api.Line) api.Connection {
	c := api.Connection{FromLine: r.Below(len(lines)), FromHome: r.Often(50), ToLine: r.Below(len(lines)), ToHome: r.Often(50), Least: r.From(0, 100)}
	c.FromStop = r.From(1, len(course(lines[c.FromLine], c.FromHome).Stops)-1)
	c.ToStop = r.From(0, len(course(lines[c.ToLine], c.ToHome).Stops)-2)
	c.Most = c.Least + r.From(0, 60)
	return c
}

// TestWait is for P7.3 and P7.5: waits, and that they stay if all offsets grow.
func TestWait(t *testing.T) {
	p, l := example(t)
	c := api.Connection{FromStop: 2, ToHome: true}
	if w, e := service.Wait(p, one(l, 100, 0), c); w != 30 || e != api.OK {
		t.Error(w, e)
	}
	c.Least, c.Most = 31, 31
	if w, e := service.Wait(p, one(l, 100, 0), c); w != 130 || e != api.OK {
		t.Error(w, e)
	}
	for seed := range 25 {
		r := sample.New(seed)
		h := r.From(30, 200)
		s := api.Service{}
		for range r.From(1, 3) {
			s.Lines, s.Headways, s.Offsets = append(s.Lines, random(t, r)), append(s.Headways, h), append(s.Offsets, r.Below(h))
		}
		later := s
		later.Offsets = nil
		more := r.Below(h)
		for _, o := range s.Offsets {
			later.Offsets = append(later.Offsets, (o+more)%h)
		}
		var kept []api.Connection
		for range 5 {
			c := randomConnection(r, s.Lines)
			want := waitOf(t, p, s, c)
			w, e := service.Wait(p, s, c)
			x, e1 := service.Wait(p, later, c)
			if w != want || x != want || e != api.OK || e1 != api.OK {
				t.Fatal(seed, c, w, x, want, e, e1)
			}
			is, e := service.Keeps(p, s, append(kept, c))
			if is != (want <= c.Most) || e != api.OK {
				t.Fatal(seed, c, is, e)
			}
			if is {
				kept = append(kept, c)
			}
		}
	}
}

// TestConnections is for P7.3: connections that are not as defined, and headways that differ.
func TestConnections(t *testing.T) {
	p, l := example(t)
	s := lines(l, 2)
	for name, c := range map[string]struct {
		do   func(c *api.Connection)
		want api.Errno
	}{
		"as it is":           {func(c *api.Connection) {}, api.OK},
		"from line 2":        {func(c *api.Connection) { c.FromLine = 2 }, api.ErrArg},
		"from line -1":       {func(c *api.Connection) { c.FromLine = -1 }, api.ErrArg},
		"to line 2":          {func(c *api.Connection) { c.ToLine = 2 }, api.ErrArg},
		"from the first one": {func(c *api.Connection) { c.FromStop = 0 }, api.ErrArg},
		"from the last one":  {func(c *api.Connection) { c.FromStop = 2 }, api.OK},
		"from beyond":        {func(c *api.Connection) { c.FromStop = 3 }, api.ErrArg},
		"to stop 1":          {func(c *api.Connection) { c.ToStop = 1 }, api.OK},
		"to the last one":    {func(c *api.Connection) { c.ToStop = 2 }, api.ErrArg},
		"to stop -1":         {func(c *api.Connection) { c.ToStop = -1 }, api.ErrArg},
		"least -1":           {func(c *api.Connection) { c.Least = -1 }, api.ErrArg},
		"least over most":    {func(c *api.Connection) { c.Least = 7200; c.Most = 7199 }, api.ErrArg},
		"most 7200":          {func(c *api.Connection) { c.Least = 7200; c.Most = 7200 }, api.OK},
		"most 7201":          {func(c *api.Connection) { c.Most = 7201 }, api.ErrArg},
		"huge":               {func(c *api.Connection) { c.FromStop, c.ToStop = math.MaxInt, math.MinInt }, api.ErrArg},
	} {
		x := api.Connection{FromStop: 1, ToLine: 1, Most: 200}
		c.do(&x)
		_, e0 := service.Wait(p, s, x)
		_, e1 := service.Keeps(p, s, []api.Connection{{FromStop: 1}, x})
		_, e2 := service.Connect(p, s.Lines, 100, []api.Connection{x})
		if e0 != c.want || e1 != c.want || e2 != c.want && !(c.want == api.OK && e2 == api.ErrNone) {
			t.Error(name, e0, e1, e2)
		}
	}
	for n, want := range map[int]api.Errno{60: api.OK, 61: api.ErrArg} {
		many := slices.Repeat([]api.Connection{{FromStop: 1, ToLine: 1, Most: 200}}, n)
		_, e0 := service.Keeps(p, s, many)
		_, e1 := service.Connect(p, s.Lines, 100, many)
		if e0 != want || e1 != want {
			t.Error(n, e0, e1)
		}
	}
	s.Headways[1] = 101
	_, e0 := service.Wait(p, s, api.Connection{FromStop: 1})
	_, e1 := service.Keeps(p, s, nil)
	if e0 != api.ErrArg || e1 != api.ErrArg || service.Check(p, s) != api.OK {
		t.Error(e0, e1)
	}
	for _, h := range []int{29, 7201, -1, math.MaxInt} {
		if o, e := service.Connect(p, s.Lines, h, nil); len(o) > 0 || e != api.ErrArg {
			t.Error(h, o, e)
		}
	}
	for n, want := range map[int]api.Errno{0: api.ErrArg, 1: api.OK, 20: api.OK, 21: api.ErrArg} {
		if o, e := service.Connect(p, lines(l, n).Lines, 100, nil); e != want || e == api.OK && !slices.Equal(o, make([]int, n)) {
			t.Error(n, o, e)
		}
	}
}

// TestConnect is for P7.3 and P7.5: the first offsets of all of them; a greater Most loses nothing.
func TestConnect(t *testing.T) {
	p := sample.Street()
	seen := map[api.Errno]int{}
	for seed := range 60 {
		r := sample.New(seed)
		h := r.From(30, 40)
		s := api.Service{}
		for range r.From(1, 3) {
			s.Lines, s.Headways, s.Offsets = append(s.Lines, random(t, r)), append(s.Headways, h), append(s.Offsets, 0)
		}
		var l []api.Connection
		for range r.From(1, 5) {
			c := randomConnection(r, s.Lines)
			c.Most = c.Least + r.From(3, 25)
			l = append(l, c)
		}
		want, ok := firstOffsets(t, p, s, l)
		o, e := service.Connect(p, s.Lines, h, l)
		if ok != (e == api.OK) || !ok && (e != api.ErrNone || len(o) > 0) || ok && !slices.Equal(o, want) {
			t.Fatal(seed, o, want, e)
		}
		if ok {
			s.Offsets = o
			if is, e := service.Keeps(p, s, l); !is || e != api.OK {
				t.Fatal(seed, o, e)
			}
			l[0].Most++
			if _, e := service.Connect(p, s.Lines, h, l); e != api.OK {
				t.Fatal(seed, e)
			}
		}
		seen[e]++
	}
	if seen[api.OK] < 10 || seen[api.ErrNone] < 10 {
		t.Error("the samples are too simple:", seen)
	}
}

// firstOffsets tries all offsets of up to three lines, in lexicographic order.
func firstOffsets(t *testing.T, p api.Plan, s api.Service, l []api.Connection) ([]int, bool) {
	t.Helper()
	// What a connection lacks with all offsets 0; with others it changes by their difference.
	var waits []int
	for _, c := range l {
		waits = append(waits, waitOf(t, p, s, c))
	}
	h := s.Headways[0]
	all := 1
	for range s.Lines[1:] {
		all *= h
	}
	for n := range all {
		o := make([]int, len(s.Lines))
		for i, left := len(o)-1, n; i > 0; i-- {
			o[i], left = left%h, left/h
		}
		kept := true
		for i, c := range l {
			w := waits[i] - c.Least + o[c.ToLine] - o[c.FromLine]
			kept = kept && c.Least+(w%h+h)%h <= c.Most
		}
		if kept {
			return o, true
		}
	}
	return nil, false
}

// TestOpen is for P7.3: how many tries the search may need.
func TestOpen(t *testing.T) {
	p, l := example(t)
	// The line 2 can never connect with itself; so all offsets of the line 1 are tried, with all of the line 2: h + h h.
	never := api.Connection{FromLine: 2, FromStop: 2, ToLine: 2, ToHome: true, Least: 31, Most: 31}
	for h, want := range map[int]api.Errno{300: api.ErrNone, 315: api.ErrNone, 316: api.ErrOpen} {
		o, e := service.Connect(p, lines(l, 3).Lines, h, []api.Connection{never})
		if e != want || len(o) > 0 {
			t.Error(h, h+h*h, o, e)
		}
	}
	// With a headway of 5000, and 19 offsets of the line 1 that are kept, exactly as many offsets are tried as may be: 5000 + 19 5000.
	for more, want := range map[int]api.Errno{18: api.ErrNone, 19: api.ErrOpen} {
		some := api.Connection{FromStop: 2, ToLine: 1, Least: 100, Most: 100 + more}
		if o, e := service.Connect(p, lines(l, 3).Lines, 5000, []api.Connection{some, never}); e != want || len(o) > 0 {
			t.Error(more, o, e)
		}
	}
	// If the line 0 cannot connect with itself, nothing is tried.
	never.FromLine, never.ToLine = 0, 0
	if o, e := service.Connect(p, lines(l, 3).Lines, 7200, []api.Connection{never}); e != api.ErrNone || len(o) > 0 {
		t.Error(o, e)
	}
	// The last offset of the line 1 is the one: h tries, then 1 for each further line.
	last := api.Connection{FromStop: 2, ToLine: 1, ToHome: true}
	s := lines(l, 2)
	s.Headways = []int{7200, 7200}
	s.Offsets[1] = 7199
	w, _ := service.Wait(p, s, last)
	last.Least, last.Most = w, w
	if o, e := service.Connect(p, lines(l, 20).Lines, 7200, []api.Connection{last}); e != api.OK || o[1] != 7199 {
		t.Error(o, e)
	}
}

// freeOf says whether an extra car can depart, by looking at all regular cars.
func freeOf(t *testing.T, p api.Plan, s api.Service, line int, home bool, depart, factor, gap int) bool {
	t.Helper()
	c := course(s.Lines[line], home)
	o, _ := service.Offsets(p, s.Lines[line], home)
	b, _, _ := base(t, p, s, line, home)
	now, before := depart, -1
	for i := range o {
		if i > 0 {
			run := o[i] - c.Dwells[i] - o[i-1]
			now += int(math.Ceil(float64(run*factor)/100)) + c.Dwells[i]
		}
		n := 0
		h := s.Headways[line]
		for k := -10000/h - 2; b+k*h <= 20000; k++ {
			regular := b + o[i] + k*h
			if regular-now < gap && now-regular < gap {
				return false
			}
			if regular < now {
				n++
			}
		}
		if before >= 0 && n != before {
			return false
		}
		before = n
	}
	return true
}

// TestSlot is for P7.4: slots against all regular cars.
func TestSlot(t *testing.T) {
	p := sample.Street()
	seen := map[api.Errno]int{}
	for seed := range 40 {
		r := sample.New(seed)
		s := one(random(t, r), r.From(60, 900), 0)
		s.Offsets[0] = r.Below(s.Headways[0])
		home, factor, gap := r.Often(50), r.From(100, 300), r.From(1, 80)
		for range 10 {
			depart := r.From(0, 5000)
			if is, e := service.Free(p, s, 0, home, depart, factor, gap); e != api.OK || is != freeOf(t, p, s, 0, home, depart, factor, gap) {
				t.Fatal(seed, depart, is, e)
			}
		}
		from := r.From(0, 3000)
		want := -1
		for x := from; x <= from+s.Headways[0] && want < 0; x++ { // after a headway all repeats
			if freeOf(t, p, s, 0, home, x, factor, gap) {
				want = x
			}
		}
		got, e := service.Slot(p, s, 0, home, from, factor, gap)
		seen[e]++
		if want < 0 && (e != api.ErrNone || got != 0) || want >= 0 && (e != api.OK || got != want) {
			t.Fatal(seed, got, want, e)
		}
	}
	if seen[api.OK] < 5 || seen[api.ErrNone] < 3 {
		t.Error("the samples are too simple:", seen)
	}
}

// TestSlotBorders is for P7.4: gaps that just fit, a car that would be overtaken, and arguments out of range.
func TestSlotBorders(t *testing.T) {
	p, l := example(t)
	s := one(l, 100, 0)
	for _, c := range []struct {
		depart, factor, gap int
		want                bool
	}{{50, 100, 50, true}, {50, 100, 51, false}, {49, 100, 50, false}, {0, 100, 1, false}, {1, 100, 1, true}, {99, 100, 1, true}, {1, 197, 1, true}, {1, 198, 1, false}, {1, 300, 1, false}, {60, 150, 10, false}, {10, 150, 10, true}} {
		if is, e := service.Free(p, s, 0, false, c.depart, c.factor, c.gap); is != c.want || e != api.OK || is != freeOf(t, p, s, 0, false, c.depart, c.factor, c.gap) {
			t.Error(c, is, e)
		}
	}
	if x, e := service.Slot(p, s, 0, false, 51, 100, 50); x != 150 || e != api.OK {
		t.Error(x, e)
	}
	if x, e := service.Slot(p, s, 0, false, 200000, 100, 1); x != 200001 || e != api.OK {
		t.Error(x, e)
	}
	for _, c := range []struct {
		line, from, factor, gap int
		want                    api.Errno
	}{{0, 0, 100, 1, api.OK}, {1, 0, 100, 1, api.ErrArg}, {-1, 0, 100, 1, api.ErrArg}, {0, -1, 100, 1, api.ErrArg}, {0, 200001, 100, 1, api.ErrArg}, {0, 0, 99, 1, api.ErrArg}, {0, 0, 401, 1, api.ErrArg}, {0, 0, 400, 1, api.ErrNone}, {0, 0, 100, 0, api.ErrArg}, {0, 0, 100, 3600, api.ErrNone}, {0, 0, 100, 3601, api.ErrArg}} {
		if x, e := service.Slot(p, s, c.line, false, c.from, c.factor, c.gap); e != c.want || e != api.OK && x != 0 {
			t.Error(c, x, e)
		}
	}
	for depart, want := range map[int]api.Errno{-1: api.ErrArg, 0: api.OK, 207200: api.OK, 207201: api.ErrArg} {
		if is, e := service.Free(p, s, 0, false, depart, 100, 1); e != want || e != api.OK && is {
			t.Error(depart, is, e)
		}
	}
	// A car that is overtaken on the only leg there is.
	single, ok := sample.Line([]int{60}, []int{0, 0}, []int{50}, []int{0, 0}, 30)
	if !ok {
		t.Fatal("there is no such line")
	}
	for factor, want := range map[int]bool{150: true, 300: false} {
		if is, e := service.Free(p, one(single, 100, 0), 0, false, 50, factor, 10); is != want || e != api.OK {
			t.Error(factor, is, e)
		}
	}
	// With a headway of 7200 the slot can be as late as 7200 seconds later.
	wide := one(l, 7200, 1800)
	if x, e := service.Slot(p, wide, 0, false, 5401, 100, 3600); x != 5400+7200 || e != api.OK {
		t.Error(x, e)
	}
}
