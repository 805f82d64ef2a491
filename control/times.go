package control

import (
	"tramline/api"
)

// point is a stop of a trip.
type point struct {
	trip int
	stop int
}

// delays adds up the delays of each stop; false if they are not as defined.
func (c *calendar) delays(l []api.Delay) (map[point]int, bool) {
	if len(l) > api.MaxDelays {
		return nil, false
	}
	sums := make(map[point]int)
	for _, d := range l {
		if !c.hasTrip(d.Trip) || !within(d.Stop, 0, c.courseOf(d.Trip).last()-1) || !within(d.Seconds, 1, mostDelay) {
			return nil, false
		}
		sums[point{trip: d.Trip, stop: d.Stop}] += d.Seconds
	}
	return sums, true
}

// cuts returns the turnback of each trip that is cut; false if the cuts are not as defined.
func (c *calendar) cuts(l []api.CutShort) (map[int]api.Turnback, bool) {
	turns := make(map[int]api.Turnback)
	for i, x := range l {
		if !c.hasTrip(x.Trip) || !within(x.Turnback, 0, len(c.Turnbacks)-1) || i > 0 && l[i-1].Trip >= x.Trip {
			return nil, false
		}
		t := c.Turnbacks[x.Turnback]
		if !c.turns(x.Trip, t) || t.Stop <= c.begin(x.Trip, turns) {
			return nil, false
		}
		turns[x.Trip] = t
	}
	return turns, true
}

// turns reports whether a trip can turn at a turnback: it is one of its course, and the next trip of the car goes the other way.
func (c *calendar) turns(trip int, t api.Turnback) bool {
	x := c.trips[trip]
	next, ok := c.next(trip)
	return ok && t.Line == x.Line && t.Home == x.Home && c.trips[next].Home != x.Home
}

// begin returns the stop at which a trip begins.
func (c *calendar) begin(trip int, turns map[int]api.Turnback) int {
	if i := c.places[trip]; i > 0 {
		if t, cut := turns[c.blockOf(trip)[i-1]]; cut {
			return t.Back
		}
	}
	return 0
}

// ride is a trip as it is run: the stops at which it begins and ends, and when it arrives and departs there and between.
type ride struct {
	begin   int
	end     int
	arrives []int
	departs []int
}

// cut reports whether the departure at a stop is not run.
func (r ride) cut(stop int) bool { return stop < r.begin || stop >= r.end }

// run runs a trip from a stop to another one; it can depart from a time on.
func (c *calendar) run(trip, begin, end, ready int, delays map[point]int) ride {
	x := c.courseOf(trip)
	r := ride{begin: begin, end: end, arrives: make([]int, len(x.Stops)), departs: make([]int, len(x.Stops))}
	for stop := begin; stop < end; stop++ {
		r.departs[stop] = max(c.published(trip, stop), ready) + delays[point{trip: trip, stop: stop}]
		r.arrives[stop+1] = r.departs[stop] + x.run(stop)
		ready = r.arrives[stop+1] + (x.Dwells[stop+1]+1)/2
	}
	return r
}

// rides runs all trips.
func (c *calendar) rides(delays map[point]int, turns map[int]api.Turnback) []ride {
	all := make([]ride, len(c.trips))
	for b, trips := range c.blocks {
		ready := 0
		for _, trip := range trips {
			begin, end, pause := c.begin(trip, turns), c.courseOf(trip).last(), c.Service.Lines[b.line].Layover
			if t, cut := turns[trip]; cut {
				end, pause = t.Stop, t.Seconds
			}
			all[trip] = c.run(trip, begin, end, ready, delays)
			ready = all[trip].arrives[end] + pause
		}
	}
	return all
}

// stands returns the times of a trip, stop by stop.
func (r ride) stands() []api.Stand {
	l := make([]api.Stand, len(r.arrives))
	for stop := range l {
		l[stop] = api.Stand{Arrive: r.arrives[stop], Depart: r.departs[stop], Cut: stop < r.begin || stop > r.end}
	}
	return l
}

// moment returns the least time from which on published times are kept.
func (c *calendar) moment(rides []ride) int {
	moment := 0
	for trip, r := range rides {
		for stop := range c.courseOf(trip).last() {
			at := c.published(trip, stop)
			if r.cut(stop) || r.departs[stop] > at {
				moment = max(moment, at+1)
			}
		}
	}
	return moment
}

// cutStops returns how many departures are not run.
func (c *calendar) cutStops(turns map[int]api.Turnback) int {
	sum := 0
	for trip, t := range turns {
		sum += c.courseOf(trip).last() - t.Stop + t.Back
	}
	return sum
}
