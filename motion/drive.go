package motion

import "tramline/api"

// choose returns the step that the driver makes at a point before a stop, and the point after it; false if no demand is safe.
func (r *run) choose(x point, stop int) (step, point, bool) {
	tried := -1
demands:
	for i := range 2*api.MotionNotch + 1 {
		s := r.step(x.Momentum, api.MotionNotch-i, r.slope(x))
		if s.next == tried || !r.possible(s.next) {
			continue
		}
		tried = s.next
		next := r.moved(x, s.next)
		for y := range r.stopping(next) {
			if r.beyond(y, stop) || r.fast(y) {
				continue demands
			}
			if y.Momentum == 0 {
				return s, next, true
			}
		}
	}
	return step{}, point{}, false
}

// arrived reports whether a train has arrived at a stop.
func (r *run) arrived(x point, stop int) bool {
	return x.Momentum == 0 && r.place(x) >= stop-api.MotionNear
}

// leg drives to a stop; false if this is not possible.
func (r *run) leg(x point, stop int) (api.Leg, point, bool) {
	var l api.Leg
	for !r.arrived(x, stop) {
		s, next, ok := r.choose(x, stop)
		// A train that stands and does not move will never move.
		stands := x.Momentum == 0 && next.Momentum == 0
		if !ok || stands || next.Way > mostWay || l.Millis == 100*api.MotionSteps {
			return api.Leg{}, point{}, false
		}
		took, gave := r.powers(s)
		l.Millis += 100
		l.Ledger = add(l.Ledger, s.ledger())
		l.Took, l.Gave = max(l.Took, took), max(l.Gave, gave)
		x = next
	}
	l.At = r.place(x)
	return l, x, true
}

// legs drives from the first stop to all others, one after the other.
func (r *run) legs(stops []int) ([]api.Leg, bool) {
	x := point{MotionState: api.MotionState{Way: r.unit * stops[0]}}
	if x.Way > mostWay {
		return nil, false
	}
	x = r.moved(x, 0)
	var legs []api.Leg
	for _, stop := range stops[1:] {
		l, next, ok := r.leg(x, stop)
		if !ok {
			return nil, false
		}
		legs = append(legs, l)
		x = next
	}
	return legs, true
}

// fields takes something of each element of a list.
func fields[T, F any](l []T, take func(T) F) []F {
	var taken []F
	for _, x := range l {
		taken = append(taken, take(x))
	}
	return taken
}
