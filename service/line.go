package service

import (
	"iter"

	"tramline/api"
	"tramline/motion"
	"tramline/track"
)

const (
	mostDwell    = 600
	mostLayover  = 3600
	leastHeadway = 30
	mostHeadway  = 7200
	mostOffset   = 50000
)

// The directions of a line, by their indexes.
const (
	out = iota
	home
	directions
)

func direction(isHome bool) int {
	if isHome {
		return home
	}
	return out
}

func within(x, least, most int) bool { return x >= least && x <= most }

// timed is a line with its running times and offsets.
type timed struct {
	api.Line
	courses [directions]api.Course
	runs    [directions][]int // from each stop to the next one
	offsets [directions][]int
}

// timeLine returns a line with its times, and whether it is as defined.
func timeLine(p api.Plan, l api.Line) (timed, bool) {
	t := timed{Line: l, courses: [directions]api.Course{out: l.Out, home: l.Home}}
	if !within(l.Layover, 0, mostLayover) || !courseRight(p, l.Out) || !courseRight(p, l.Home) {
		return timed{}, false
	}
	for d := range t.courses {
		if !t.time(p, d) {
			return timed{}, false
		}
	}
	return t, true
}

// courseRight reports whether a course is as defined by itself.
func courseRight(p api.Plan, c api.Course) bool {
	length, err := track.WayLength(p, c.Way)
	if err != api.OK || !within(len(c.Stops), 2, api.MaxStops) || len(c.Dwells) != len(c.Stops) {
		return false
	}
	last := len(c.Stops) - 1
	for i, stop := range c.Stops {
		if i > 0 && stop <= c.Stops[i-1] || !within(c.Dwells[i], 0, mostDwell) {
			return false
		}
	}
	return c.Stops[0] >= 1 && c.Stops[last] <= length && c.Dwells[0] == 0 && c.Dwells[last] == 0
}

// time finds the running times and the offsets of a direction; false if layer 3 refuses the run, or it takes too long.
func (t *timed) time(p api.Plan, d int) bool {
	c := t.courses[d]
	millis, err := motion.Run(p, c.Way, t.Train, t.State, c.Stops)
	if err != api.OK {
		return false
	}
	now := 0
	t.offsets[d] = []int{now}
	for i, n := range millis {
		seconds := max(1, (n+999)/1000)
		t.runs[d] = append(t.runs[d], seconds)
		now += seconds + c.Dwells[i+1]
		t.offsets[d] = append(t.offsets[d], now)
	}
	return now <= mostOffset
}

// last returns the last offset of a direction.
func (t *timed) last(d int) int { return t.offsets[d][len(t.offsets[d])-1] }

func (t *timed) round() int { return t.last(out) + t.last(home) + 2*t.Layover }

// cars returns the least number of cars with a headway.
func (t *timed) cars(headway int) int { return (t.round() + headway - 1) / headway }

// timetable is a line that runs with a headway and an offset.
type timetable struct {
	timed
	headway int
	offset  int
}

// base returns a departure of a direction: that of the car 0, with which it departs on Out at the offset.
func (t *timetable) base(d int) int {
	if d == out {
		return t.offset
	}
	slack := t.cars(t.headway)*t.headway - t.round()
	return t.offset + t.last(out) + t.Layover + slack/2
}

// departure returns the departure that a car makes of a stop in its round k.
func (t *timetable) departure(d, stop, k int) int {
	return t.base(d) + t.offsets[d][stop] + k*t.headway
}

// arrival returns the arrival at a stop in the round k.
func (t *timetable) arrival(d, stop, k int) int {
	return t.departure(d, stop, k) - t.courses[d].Dwells[stop]
}

// departures yields the trips of a direction that depart not before a time and arrive not after another one.
func (t *timetable) departures(d, from, until int) iter.Seq[api.Trip] {
	return func(yield func(api.Trip) bool) {
		last := len(t.offsets[d]) - 1
		for k := -floor(t.departure(d, 0, 0)-from, t.headway); t.arrival(d, last, k) <= until; k++ {
			if !yield(t.trip(d, k)) {
				return
			}
		}
	}
}

// trip returns the trip of a direction in the round k, but for its line.
func (t *timetable) trip(d, k int) api.Trip {
	return api.Trip{Home: d == home, Car: modulo(k, t.cars(t.headway)), Depart: t.departure(d, 0, k)}
}

// floor returns a quotient rounded down; b is positive.
func floor(a, b int) int { return (a - modulo(a, b)) / b }

// modulo returns what is left of a by b, from 0 to b - 1.
func modulo(a, b int) int { return (a%b + b) % b }

// timetables returns the timetables of a service, and whether it is as defined.
func timetables(p api.Plan, s api.Service) ([]timetable, bool) {
	if !within(len(s.Lines), 1, api.MaxLines) || len(s.Headways) != len(s.Lines) || len(s.Offsets) != len(s.Lines) {
		return nil, false
	}
	for i, h := range s.Headways {
		if !headwayRight(h) || !within(s.Offsets[i], 0, h-1) {
			return nil, false
		}
	}
	var l []timetable
	for i, line := range s.Lines {
		t, ok := timeLine(p, line)
		if !ok {
			return nil, false
		}
		l = append(l, timetable{timed: t, headway: s.Headways[i], offset: s.Offsets[i]})
	}
	return l, true
}

func headwayRight(h int) bool { return within(h, leastHeadway, mostHeadway) }
