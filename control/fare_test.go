package control_test

import (
	"cmp"
	"math"
	"math/bits"
	"slices"
	"testing"

	"tramline/api"
	"tramline/control"
	"tramline/sample"
)

// TestFareExample is for P10.5.
func TestFareExample(t *testing.T) {
	d := example(t)
	z := api.Zones{Stops: []int{1, 1, 2, 1, 1, 1}}
	tickets := []api.Ticket{{Count: 1, Minutes: 60, Price: 20}, {Count: 2, Minutes: 60, Price: 30}}
	if n, l, e := control.Fare(d, z, tickets, []api.Ride{{To: 2}}); n != 30 || !slices.Equal(l, []api.Sold{{Ticket: 1, Rides: 1}}) || e != api.OK {
		t.Error(n, l, e)
	}
	if n, l, e := control.Fare(d, z, tickets[:1], []api.Ride{{To: 2}}); n != 0 || len(l) > 0 || e != api.ErrNone {
		t.Error(n, l, e)
	}
	if n, l, e := control.Fare(d, z, tickets, []api.Ride{{To: 1}}); n != 20 || !slices.Equal(l, []api.Sold{{Ticket: 0, Rides: 1}}) || e != api.OK {
		t.Error(n, l, e)
	}
}

// TestCovers is for P10.5: zones and times, at their borders.
func TestCovers(t *testing.T) {
	d := example(t)
	d.Service.Headways[0], d.Service.Offsets[0], d.Until = 7000, 0, 30000
	z := api.Zones{Stops: []int{1, 2 | 4, 8, 4, 1, 1}}
	out := []api.Ride{{To: 2}}
	for i, c := range []struct {
		z     []int
		t     api.Ticket
		rides []api.Ride
		want  bool
	}{
		{z.Stops, api.Ticket{Count: 2, Minutes: 2}, out, false},
		{z.Stops, api.Ticket{Count: 3, Minutes: 2}, out, true}, // exactly 120 seconds
		{z.Stops, api.Ticket{Count: 3, Minutes: 1}, out, false},
		{z.Stops, api.Ticket{Count: 20, Minutes: 2}, out, true},
		{z.Stops, api.Ticket{Zones: 1 | 4 | 8, Minutes: 2}, out, true},
		{z.Stops, api.Ticket{Zones: 1 | 2 | 8, Minutes: 2}, out, true},
		{z.Stops, api.Ticket{Zones: 2 | 4 | 8, Minutes: 2}, out, false},
		{z.Stops, api.Ticket{Zones: 1<<20 - 1, Minutes: 2}, out, true},
		{z.Stops, api.Ticket{Count: 1, Minutes: 1}, []api.Ride{{To: 1}}, false},
		{z.Stops, api.Ticket{Count: 2, Minutes: 1}, []api.Ride{{To: 1}}, true},
		{z.Stops, api.Ticket{Count: 1, Minutes: 1}, []api.Ride{{From: 1, To: 2}}, false},
		{[]int{1, 3, 2, 1, 1, 1}, api.Ticket{Count: 1, Minutes: 1}, []api.Ride{{From: 1, To: 2}}, true}, // the stop counts as being in whichever is best
		{[]int{1, 3, 2, 1, 1, 1}, api.Ticket{Count: 1, Minutes: 2}, out, false},
		{[]int{1, 3, 2, 1, 1, 1}, api.Ticket{Count: 2, Minutes: 10000}, []api.Ride{{To: 2}, {Trip: 1, To: 2}}, true},
		{[]int{1, 3, 2, 4, 1, 1}, api.Ticket{Count: 2, Minutes: 10000}, []api.Ride{{To: 2}, {Trip: 1, To: 2}}, false},
		{[]int{1, 3, 2, 4, 1, 1}, api.Ticket{Count: 2, Minutes: 10000}, []api.Ride{{To: 2}, {Trip: 1, From: 1, To: 2}}, true},
	} {
		if is, e := control.Covers(d, api.Zones{Stops: c.z}, c.t, c.rides); is != c.want || e != api.OK {
			t.Error(i, is, e)
		}
	}
}

// TestFareArguments is for P10.5: zones, tickets and journeys that are not as defined, and too many zones.
func TestFareArguments(t *testing.T) {
	d := example(t)
	z := func(l ...int) api.Zones { return api.Zones{Stops: l} }
	good := z(1, 1, 2, 1, 1, 1)
	ticket := api.Ticket{Count: 1, Minutes: 60, Price: 20}
	ride := []api.Ride{{To: 1}}
	check := func(name string, z api.Zones, x api.Ticket, rides []api.Ride, want api.Errno) {
		t.Helper()
		n, l, e := control.Fare(d, z, []api.Ticket{ticket, x}, rides)
		is, e1 := control.Covers(d, z, x, rides)
		if want == api.OK && e == api.ErrNone {
			e = api.OK
		}
		if e != want || e1 != want || want != api.OK && (n != 0 || len(l) > 0 || is) {
			t.Error(name, n, l, e, is, e1)
		}
	}
	check("as they are", good, ticket, ride, api.OK)
	check("too few zones", z(1, 1, 2, 1, 1), ticket, ride, api.ErrArg)
	check("too many zones", z(1, 1, 2, 1, 1, 1, 1), ticket, ride, api.ErrArg)
	check("zones 0", z(1, 1, 2, 1, 1, 0), ticket, ride, api.ErrArg)
	check("zones -1", z(-1, 1, 2, 1, 1, 1), ticket, ride, api.ErrArg)
	check("all zones", z(1, 1, 2, 1, 1, 1<<20-1), ticket, ride, api.OK)
	check("more zones", z(1, 1, 2, 1, 1, 1<<20), ticket, ride, api.ErrArg)
	for name, x := range map[string]api.Ticket{
		"zones -1": {Zones: -1, Minutes: 1}, "more zones": {Zones: 1 << 20, Minutes: 1}, "no count": {Minutes: 1}, "count 21": {Count: 21, Minutes: 1}, "count -1": {Count: -1, Minutes: 1}, "both": {Zones: 1, Count: 1, Minutes: 1},
		"no minutes": {Count: 1}, "too many minutes": {Count: 1, Minutes: 10001}, "price -1": {Count: 1, Minutes: 1, Price: -1}, "price of more": {Count: 1, Minutes: 1, Price: 1000001}, "huge": {Count: math.MaxInt, Minutes: math.MaxInt},
	} {
		check("ticket with "+name, good, x, ride, api.ErrArg)
	}
	check("the greatest ticket", good, api.Ticket{Zones: 1<<20 - 1, Minutes: 10000, Price: 1000000}, ride, api.OK)
	for name, rides := range map[string][]api.Ride{
		"none": nil, "no such trip": {{Trip: 12, To: 1}}, "trip -1": {{Trip: -1, To: 1}}, "backward": {{From: 1, To: 0}}, "nowhere": {{From: 1, To: 1}}, "from -1": {{From: -1, To: 1}}, "too far": {{To: 3}},
		"too early": {{To: 2}, {Trip: 2, To: 1}}, "the same one again": {{To: 1}, {To: 1}}, "huge": {{Trip: 0, From: math.MinInt, To: math.MaxInt}},
	} {
		check("journey: "+name, good, ticket, rides, api.ErrArg)
	}
	check("just in time", good, ticket, []api.Ride{{To: 2}, {Trip: 4, To: 1}}, api.OK)
	check("off and on", good, ticket, []api.Ride{{To: 1}, {From: 1, To: 2}}, api.OK)
	for n, want := range map[int]api.Errno{10: api.OK, 11: api.ErrLong} {
		check("many zones", z((1<<n-1)<<1, 2, 2, 1<<19, 1<<18, 1<<17), ticket, ride, want)
	}
	for n, want := range map[int]api.Errno{0: api.ErrArg, 1: api.OK, 30: api.OK, 31: api.ErrArg} {
		if _, _, e := control.Fare(d, good, slices.Repeat([]api.Ticket{ticket}, n), ride); e != want {
			t.Error(n, e)
		}
	}
	d.Until = 3000
	check("20 rides", good, ticket, manyRides(20), api.OK)
	check("21 rides", good, ticket, manyRides(21), api.ErrArg)
	d.Until = 60000
	check("a long day", good, ticket, ride, api.ErrLong)
	check("a long day and a long journey", good, ticket, manyRides(20), api.ErrLong)
	check("a long day and no journey", good, ticket, nil, api.ErrArg)
}

// manyRides returns rides on one trip after the other, two on each.
func manyRides(n int) []api.Ride {
	var l []api.Ride
	for i := range n {
		l = append(l, api.Ride{Trip: i / 2 * 4, From: i % 2, To: i%2 + 1})
	}
	return l
}

// TestMinutes is for P10.5: a ride that takes a second more than a minute.
func TestMinutes(t *testing.T) {
	d := example(t)
	for seconds, want := range map[int]bool{60: true, 61: false} {
		l, ok := sample.Line([]int{seconds}, []int{0, 0}, []int{50}, []int{0, 0}, 30)
		if !ok {
			t.Fatal("there is no such line")
		}
		d.Service.Lines[0], d.Turnbacks = l, nil
		if is, e := control.Covers(d, api.Zones{Stops: []int{1, 1, 1, 1}}, api.Ticket{Count: 1, Minutes: 1}, []api.Ride{{To: 1}}); is != want || e != api.OK {
			t.Error(seconds, is, e)
		}
	}
}

// coversOf says whether a ticket covers rides, by trying all sets of zones.
func (b *book) coversOf(z api.Zones, x api.Ticket, rides []api.Ride) bool {
	first, last := rides[0], rides[len(rides)-1]
	c, _ := b.course(last.Trip)
	if b.published(last.Trip, last.To)-c.Dwells[last.To]-b.published(first.Trip, first.From) > 60*x.Minutes {
		return false
	}
	var stops []int
	for _, r := range rides {
		index := 0
		for line := range b.trips[r.Trip].Line {
			index += len(b.Service.Lines[line].Out.Stops) + len(b.Service.Lines[line].Home.Stops)
		}
		if b.trips[r.Trip].Home {
			index += len(b.Service.Lines[b.trips[r.Trip].Line].Out.Stops)
		}
		stops = append(stops, z.Stops[index+r.From:index+r.To+1]...)
	}
	good := func(set int) bool {
		return !slices.ContainsFunc(stops, func(s int) bool { return s&set == 0 })
	}
	if x.Zones != 0 {
		return good(x.Zones)
	}
	for set := range 1 << 6 {
		if bits.OnesCount(uint(set)) <= x.Count && good(set) {
			return true
		}
	}
	return false
}

// offer is tickets for a journey with their price.
type offer struct {
	price int
	sold  []api.Sold
}

// flat returns ride numbers and tickets by turns.
func (o offer) flat() []int {
	var l []int
	for _, s := range o.sold {
		l = append(l, s.Rides, s.Ticket)
	}
	return l
}

// fareOf returns the best offer of all.
func (b *book) fareOf(z api.Zones, tickets []api.Ticket, rides []api.Ride) (offer, bool) {
	var best offer
	found := false
	var extend func(o offer, from int)
	extend = func(o offer, from int) {
		if from == len(rides) {
			if !found || cmp.Or(o.price-best.price, len(o.sold)-len(best.sold), slices.Compare(o.flat(), best.flat())) < 0 {
				best, found = o, true
			}
			return
		}
		for n := 1; from+n <= len(rides); n++ {
			for i, x := range tickets {
				if b.coversOf(z, x, rides[from:from+n]) {
					extend(offer{price: o.price + x.Price, sold: append(slices.Clone(o.sold), api.Sold{Ticket: i, Rides: n})}, from+n)
				}
			}
		}
	}
	extend(offer{}, 0)
	return best, found
}

// randomJourney returns rides that follow each other.
func randomJourney(r *sample.Rand, b *book) []api.Ride {
	var l []api.Ride
	now := 0
	for range r.From(1, 4) {
		for trip := r.Below(len(b.trips)); trip < len(b.trips); trip++ {
			c, _ := b.course(trip)
			from := r.Below(len(c.Stops) - 1)
			if b.published(trip, from) >= now {
				to := r.From(from+1, len(c.Stops)-1)
				l = append(l, api.Ride{Trip: trip, From: from, To: to})
				now = b.published(trip, to) - c.Dwells[to]
				break
			}
		}
	}
	return l
}

// TestFare is for P10.5: fares against all choices of tickets; a journey never costs more than its two parts.
func TestFare(t *testing.T) {
	seen := map[int]int{}
	for seed := range 60 {
		r := sample.New(seed)
		d := random(t, r)
		b := newBook(t, d)
		if len(b.trips) == 0 {
			continue
		}
		var z api.Zones
		for _, l := range d.Service.Lines {
			for range len(l.Out.Stops) + len(l.Home.Stops) {
				z.Stops = append(z.Stops, r.From(1, 63))
			}
		}
		var tickets []api.Ticket
		for range r.From(1, 5) {
			x := api.Ticket{Count: r.From(1, 3), Minutes: r.From(1, 6), Price: r.From(0, 6) * 10}
			if r.Often(30) {
				x.Count, x.Zones = 0, r.From(1, 63)
			}
			tickets = append(tickets, x)
		}
		rides := randomJourney(r, b)
		want, ok := b.fareOf(z, tickets, rides)
		n, l, e := control.Fare(d, z, tickets, rides)
		if ok != (e == api.OK) || !ok && e != api.ErrNone || n != want.price || !slices.Equal(l, want.sold) {
			t.Fatal(seed, n, l, want, e)
		}
		if is, e := control.Covers(d, z, tickets[0], rides); e != api.OK || is != b.coversOf(z, tickets[0], rides) {
			t.Fatal(seed, is, e)
		}
		seen[len(l)]++
		if k := r.From(1, len(rides)); k < len(rides) {
			first, _, e0 := control.Fare(d, z, tickets, rides[:k])
			second, _, e1 := control.Fare(d, z, tickets, rides[k:])
			if e0 == api.OK && e1 == api.OK && (e != api.OK || n > first+second) {
				t.Fatal(seed, n, first, second, e)
			}
		}
	}
	if seen[0] < 3 || seen[1] < 5 || seen[2] < 3 {
		t.Error("the samples are too simple:", seen)
	}
}
