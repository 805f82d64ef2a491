package control

import (
	"cmp"
	"slices"

	"tramline/api"
	"tramline/service"
)

const (
	mostTurn   = 3600
	mostDelay  = 20000
	mostMoment = 1000000
	mostCourse = 50000 // seconds from the first stop to the last one
)

// The directions of a line, by their indexes.
const (
	out = iota
	home
	directions
)

func direction(isHome bool) int {
	if isHome {
		return home
	}
	return out
}

func within(x, least, most int) bool { return x >= least && x <= most }

// course is a direction of a line with its offsets.
type course struct {
	api.Course
	offsets []int
}

func (c *course) last() int { return len(c.Stops) - 1 }

// run returns the running time from a stop to the next one.
func (c *course) run(stop int) int {
	return c.offsets[stop+1] - c.Dwells[stop+1] - c.offsets[stop]
}

// block is a car of a line.
type block struct {
	line int
	car  int
}

// calendar is a day with what follows from it.
type calendar struct {
	api.Day
	trips   []api.Trip
	courses [][directions]course // by line
	blocks  map[block][]int      // the trips of each car, by their Depart
	places  []int                // for each trip, its index in its block
}

// open returns the calendar of a day, and whether the day is as defined, but for the number of its trips.
func open(d api.Day) (*calendar, bool) {
	trips, err := service.Trips(d.Plan, d.Service, d.Works, d.From, d.Until)
	if err == api.ErrLong {
		trips, err = manyTrips(d), api.OK
	}
	if err != api.OK || !turnbacksRight(d) {
		return nil, false
	}
	c := &calendar{Day: d, trips: trips, blocks: make(map[block][]int)}
	for _, l := range d.Service.Lines {
		there, _ := service.Offsets(d.Plan, l, false)
		back, _ := service.Offsets(d.Plan, l, true)
		c.courses = append(c.courses, [directions]course{out: {l.Out, there}, home: {l.Home, back}})
	}
	for i, t := range trips {
		b := block{line: t.Line, car: t.Car}
		c.places = append(c.places, len(c.blocks[b]))
		c.blocks[b] = append(c.blocks[b], i)
	}
	return c, true
}

// manyTrips returns the trips of a day with so many that layer 7 does not give them at once. They are asked for line by line, and in windows that are short enough.
func manyTrips(d api.Day) []api.Trip {
	const window = 10000
	var all []api.Trip
	for line, l := range d.Service.Lines {
		one := api.Service{Lines: []api.Line{l}, Headways: d.Service.Headways[line : line+1], Offsets: d.Service.Offsets[line : line+1]}
		for from := d.From; from <= d.Until; from += window {
			trips, _ := service.Trips(d.Plan, one, d.Works, from, min(d.Until, from+window+mostCourse))
			for _, t := range trips {
				if t.Depart < from+window {
					t.Line = line
					all = append(all, t)
				}
			}
		}
	}
	slices.SortFunc(all, func(a, b api.Trip) int {
		return cmp.Or(cmp.Compare(a.Depart, b.Depart), cmp.Compare(a.Line, b.Line), cmp.Compare(direction(a.Home), direction(b.Home)))
	})
	return all
}

// turnbacksRight reports whether turnbacks are as defined for the service of a day.
func turnbacksRight(d api.Day) bool {
	for _, t := range d.Turnbacks {
		if !within(t.Line, 0, len(d.Service.Lines)-1) || !within(t.Seconds, 1, mostTurn) {
			return false
		}
		first, second := d.Service.Lines[t.Line].Out, d.Service.Lines[t.Line].Home
		if t.Home {
			first, second = second, first
		}
		if !within(t.Stop, 1, len(first.Stops)-2) || !within(t.Back, 1, len(second.Stops)-2) {
			return false
		}
	}
	return len(d.Turnbacks) <= api.MaxTurnbacks
}

// long returns ErrLong for a day with too many trips.
func (c *calendar) long() api.Errno {
	if len(c.trips) > api.MaxDayTrips {
		return api.ErrLong
	}
	return api.OK
}

func (c *calendar) hasTrip(trip int) bool { return within(trip, 0, len(c.trips)-1) }

// courseOf returns the course of a trip.
func (c *calendar) courseOf(trip int) *course {
	t := c.trips[trip]
	return &c.courses[t.Line][direction(t.Home)]
}

// published returns the published departure of a trip at a stop; at the last one, its arrival.
func (c *calendar) published(trip, stop int) int {
	return c.trips[trip].Depart + c.courseOf(trip).offsets[stop]
}

// blockOf returns the trips of the car that runs a trip.
func (c *calendar) blockOf(trip int) []int {
	t := c.trips[trip]
	return c.blocks[block{line: t.Line, car: t.Car}]
}

// next returns the next trip of the same car, and whether there is one.
func (c *calendar) next(trip int) (int, bool) {
	trips := c.blockOf(trip)
	i := c.places[trip] + 1
	if i == len(trips) {
		return 0, false
	}
	return trips[i], true
}

// least returns the first element of a list before which no other one comes; the list is not empty.
func least[T any](l []T, compare func(x, y T) int) T {
	found := l[0]
	for _, x := range l[1:] {
		if compare(x, found) < 0 {
			found = x
		}
	}
	return found
}
