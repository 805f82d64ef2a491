package service

import "tramline/api"

const (
	leastFactor = 100
	mostFactor  = 400
	mostGap     = 3600
	mostSlot    = 7200
)

// extra is a car that runs between the regular ones.
type extra struct {
	table   *timetable
	course  int
	offsets []int
	gap     int
}

// newExtra returns an extra car that takes a factor of the running times, in percent.
func newExtra(t *timetable, d, factor, gap int) extra {
	x := extra{table: t, course: d, offsets: []int{0}, gap: gap}
	now := 0
	for i, seconds := range t.runs[d] {
		now += (seconds*factor+99)/100 + t.courses[d].Dwells[i+1]
		x.offsets = append(x.offsets, now)
	}
	return x
}

// free reports whether the car can depart at a time: at each stop far enough from regular ones, and everywhere between the same two.
func (x extra) free(depart int) bool {
	h := x.table.headway
	between := 0
	for stop, offset := range x.offsets {
		after := depart + offset - x.table.departure(x.course, stop, 0)
		left := modulo(after, h)
		if left < x.gap || h-left < x.gap {
			return false
		}
		if stop > 0 && floor(after, h) != between {
			return false
		}
		between = floor(after, h)
	}
	return true
}

// first returns the first slot from a time on, and whether there is one.
func (x extra) first(from int) (int, bool) {
	for t := from; t <= from+mostSlot; t++ {
		if x.free(t) {
			return t, true
		}
	}
	return 0, false
}

// extraOf returns the extra car of a line of a service, and whether all is as defined.
func extraOf(p api.Plan, s api.Service, line int, isHome bool, factor, gap int) (extra, bool) {
	if !within(line, 0, len(s.Lines)-1) || !within(factor, leastFactor, mostFactor) || !within(gap, 1, mostGap) {
		return extra{}, false
	}
	tables, ok := timetables(p, s)
	if !ok {
		return extra{}, false
	}
	return newExtra(&tables[line], direction(isHome), factor, gap), true
}
