package control

import (
	"cmp"
	"slices"

	"tramline/api"
)

// tooDear is what the search gives up with.
type tooDear struct{}

// unlessTooDear does something that may be given up.
func unlessTooDear(do func()) {
	defer func() {
		switch x := recover().(type) {
		case nil, tooDear:
		default:
			panic(x)
		}
	}()
	do()
}

// search looks for the best cuts of a block: first backward, how late the car may be for each trip, then forward, which cuts that needs.
type search struct {
	*calendar
	trips  []int
	from   int // from when on published times have to be kept
	delays map[point]int
	latest []int            // for each trip, and behind the last one, a time after which no car is ready for it, whatever is cut
	limits []map[int]limits // likewise, for the stops at which the trip may begin
}

func newSearch(c *calendar, trips []int, from int, delays map[point]int) *search {
	s := &search{calendar: c, trips: trips, from: from, delays: delays, latest: make([]int, len(trips)+1), limits: make([]map[int]limits, len(trips)+1)}
	for i, trip := range trips {
		r := s.run(trip, 0, s.courseOf(trip).last(), s.latest[i], delays)
		s.latest[i+1] = s.readyAfter(trip, r)
		for _, t := range s.Turnbacks {
			if s.allowed(trip, t) {
				s.latest[i+1] = max(s.latest[i+1], r.arrives[t.Stop]+t.Seconds)
			}
		}
	}
	s.limits[len(trips)] = map[int]limits{0: {{ready: s.latest[len(trips)]}}}
	for i := len(trips) - 1; i >= 0; i-- {
		s.limits[i] = s.limitsOf(i)
	}
	return s
}

// readyAfter returns when a car is ready for its next trip, if it is not cut.
func (s *search) readyAfter(trip int, r ride) int {
	return r.arrives[r.end] + s.layover(trip)
}

func (s *search) layover(trip int) int {
	return s.Service.Lines[s.calendar.trips[trip].Line].Layover
}

// limitsOf returns the limits of a trip, for each stop at which it may begin; those of the next one are known.
func (s *search) limitsOf(index int) map[int]limits {
	trip, next := s.trips[index], s.limits[index+1]
	x := s.courseOf(trip)
	found := make(map[int]limits)
	arrival := next[0].moved(0, s.layover(trip)) // how late the car may come to the stop behind
	for stop := x.last() - 1; stop >= 0; stop-- {
		ready := s.before(trip, stop, arrival)
		if stop == 0 || s.isBack(trip, stop) {
			found[stop] = ready.capped(s.latest[index])
		}
		arrival = ready.moved(0, (x.Dwells[stop]+1)/2)
		for _, t := range s.Turnbacks {
			if t.Stop == stop && s.allowed(trip, t) {
				arrival = arrival.or(next[t.Back].moved(s.costOf(trip, t), t.Seconds))
			}
		}
	}
	return found
}

// before returns how late a car may be ready at a stop, if it is known how late it may come to the next one.
func (s *search) before(trip, stop int, arrival limits) limits {
	published, delay, run := s.published(trip, stop), s.delays[point{trip: trip, stop: stop}], s.courseOf(trip).run(stop)
	var l limits
	for _, x := range arrival {
		depart := x.ready - run
		if published >= s.from {
			depart = min(depart, published)
		}
		if published+delay <= depart {
			l = l.add(limit{cost: x.cost, ready: depart - delay})
		}
	}
	return l
}

// isBack reports whether a trip can begin at a stop.
func (s *search) isBack(trip, stop int) bool {
	x := s.calendar.trips[trip]
	return slices.ContainsFunc(s.Turnbacks, func(t api.Turnback) bool { return t.Line == x.Line && t.Home != x.Home && t.Back == stop })
}

// costOf returns how many stops are cut if a trip turns.
func (s *search) costOf(trip int, t api.Turnback) int {
	return s.courseOf(trip).last() - t.Stop + t.Back
}

// allowed reports whether a trip can turn without a cut stop at a time that has to be kept. The last cut stop is that of the next trip before it begins.
func (s *search) allowed(trip int, t api.Turnback) bool {
	if !s.turns(trip, t) {
		return false
	}
	next, _ := s.next(trip)
	return s.published(next, t.Back-1) < s.from
}

// cutsOf returns the best cuts, and whether there are any. The first choice that does not cost too much is taken for each trip.
func (s *search) cutsOf() ([]api.CutShort, bool) {
	if len(s.limits[0][0]) == 0 {
		return nil, false
	}
	var chosen []api.CutShort
	done := false
	var visit func(index, begin int, at limit)
	visit = func(index, begin int, at limit) {
		if !s.limits[index][begin].allow(at) {
			panic(tooDear{})
		}
		if index == len(s.trips) {
			done = true
			return
		}
		trip := s.trips[index]
		r := s.run(trip, begin, s.courseOf(trip).last(), at.ready, s.delays)
		// No departure of this trip can be late that has to be kept: no cut would be allowed then, and there would be no limits.
		unlessTooDear(func() { visit(index+1, 0, limit{cost: at.cost, ready: s.readyAfter(trip, r)}) })
		for i, t := range s.Turnbacks {
			if done || t.Stop <= begin || !s.allowed(trip, t) {
				continue
			}
			chosen = append(chosen, api.CutShort{Trip: trip, Turnback: i})
			unlessTooDear(func() {
				visit(index+1, t.Back, limit{cost: at.cost - s.costOf(trip, t), ready: r.arrives[t.Stop] + t.Seconds})
			})
			if !done {
				chosen = chosen[:len(chosen)-1]
			}
		}
	}
	unlessTooDear(func() { visit(0, 0, limit{cost: s.limits[0][0][0].cost}) })
	return chosen, done
}

// right returns the best cuts that put a day right, and whether there are any. Cars do not influence each other.
func (c *calendar) right(delays map[point]int, from int) ([]api.CutShort, bool) {
	var all []api.CutShort
	for _, trips := range c.blocks {
		cuts, ok := newSearch(c, trips, from, delays).cutsOf()
		if !ok {
			return nil, false
		}
		all = append(all, cuts...)
	}
	slices.SortFunc(all, func(a, b api.CutShort) int { return cmp.Compare(a.Trip, b.Trip) })
	return all, true
}
