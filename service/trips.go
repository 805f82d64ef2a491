package service

import (
	"slices"

	"tramline/api"
)

const mostWorks = 100

// worksRight reports whether works are as defined.
func worksRight(p api.Plan, works []api.Works) bool {
	for _, w := range works {
		if !within(w.Rail, 0, len(p.Rails)-1) || w.From < 0 || w.From > w.Until || w.Until > api.LastSecond {
			return false
		}
	}
	return len(works) <= mostWorks
}

// closing returns the works that concern a direction.
func (t *timetable) closing(d int, works ...api.Works) []api.Works {
	return slices.DeleteFunc(slices.Clone(works), func(w api.Works) bool {
		return !slices.ContainsFunc(t.courses[d].Way, func(m api.Move) bool { return m.Rail == w.Rail })
	})
}

// runs reports whether a car may be on its way from a time to another one, for all the works that concern it.
func runs(depart, arrive int, works ...api.Works) bool {
	return !slices.ContainsFunc(works, func(w api.Works) bool { return depart < w.Until && w.From < arrive })
}

// trips returns the trips of a service that may run, in order.
func trips(tables []timetable, works []api.Works, from, until int) []api.Trip {
	var all []api.Trip
	for i := range tables {
		for d := range directions {
			all = merge(all, tables[i].tripsOf(i, d, works, from, until), before)
		}
	}
	return all
}

// tripsOf returns the trips of a line and a direction.
func (t *timetable) tripsOf(line, d int, works []api.Works, from, until int) []api.Trip {
	closing := t.closing(d, works...)
	var l []api.Trip
	for trip := range t.departures(d, from, until) {
		if runs(trip.Depart, trip.Depart+t.last(d), closing...) {
			trip.Line = line
			l = append(l, trip)
		}
	}
	return l
}

// before reports whether a trip comes before another one in a day.
func before(a, b api.Trip) bool {
	if a.Depart != b.Depart {
		return a.Depart < b.Depart
	}
	if a.Line != b.Line {
		return a.Line < b.Line
	}
	return !a.Home && b.Home
}

// merge merges two lists that are in order.
func merge[T any](a, b []T, before func(x, y T) bool) []T {
	merged := make([]T, 0, len(a)+len(b))
	for len(a) > 0 && len(b) > 0 {
		if before(b[0], a[0]) {
			merged, b = append(merged, b[0]), b[1:]
		} else {
			merged, a = append(merged, a[0]), a[1:]
		}
	}
	return append(append(merged, a...), b...)
}

// lastTrip returns the last trip of a line and a direction that arrives at a time or before, and whether there is one.
func (t *timetable) lastTrip(line, d int, works []api.Works, time int) (api.Trip, bool) {
	closing := t.closing(d, works...)
	for k := floor(time-t.last(d)-t.base(d), t.headway); t.departure(d, 0, k) >= 0; k-- {
		trip := t.trip(d, k)
		if runs(trip.Depart, trip.Depart+t.last(d), closing...) {
			trip.Line = line
			return trip, true
		}
	}
	return api.Trip{}, false
}
