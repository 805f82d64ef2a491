package motion

import (
	"iter"
	"slices"

	"tramline/api"
	"tramline/shape"
)

// zone is a part of a way on which a train's front is on the same slope, and the train under the same limit.
type zone struct {
	from  int // the place at which it begins
	slope int
	limit int
}

// run is a train on its way.
type run struct {
	*engine
	unit  int // by how much the Way grows in a millimeter
	zones []zone
}

// point is a state of motion, with the index of the zone of its front.
type point struct {
	api.MotionState
	zone int
}

func newRun(t api.Train, state int, zones []zone) *run {
	return &run{engine: newEngine(t, state), unit: 10 * t.Mass, zones: zones}
}

// level returns a run on one slope without an end.
func level(t api.Train, state, slope int) *run { return newRun(t, state, []zone{{slope: slope}}) }

func (r *run) place(x point) int { return x.Way / r.unit }

func (r *run) slope(x point) int { return r.zones[x.zone].slope }

// fast reports whether the train is faster than its limit.
func (r *run) fast(x point) bool { return x.Momentum >= (r.zones[x.zone].limit+1)*r.Mass }

// beyond reports whether the front has passed a place.
func (r *run) beyond(x point, place int) bool { return x.Way >= (place+1)*r.unit }

// moved returns the point after a step that has led to a momentum.
func (r *run) moved(x point, momentum int) point {
	x.Momentum = momentum
	x.Way += momentum
	for x.zone+1 < len(r.zones) && x.Way >= r.zones[x.zone+1].from*r.unit {
		x.zone++
	}
	return x
}

// stopping yields a point, and those after each step with the greatest brake, until the train stands; the last one has a momentum if it cannot stop.
func (r *run) stopping(x point) iter.Seq[point] {
	return func(yield func(point) bool) {
		i := instant{demand: -api.MotionNotch}
		steady := r.brake(i)
		for range api.MotionSteps {
			if !yield(x) || x.Momentum == 0 {
				return
			}
			i.speed, i.slope = x.Momentum/r.Mass, r.slope(x)
			next := after(x.Momentum, -steady-r.drag(i)-r.hill(i))
			if !r.possible(next) {
				return
			}
			x = r.moved(x, next)
		}
		yield(x)
	}
}

// braking returns the braking way from a point, and whether there is one.
func (r *run) braking(x point) (int, bool) {
	last := x
	for last = range r.stopping(x) {
	}
	return r.place(last) - r.place(x), last.Momentum == 0
}

// sight returns the sight speed for a distance.
func (r *run) sight(distance int) int {
	v := r.Speed
speeds:
	for ; v > 0; v-- {
		last := point{}
		for last = range r.stopping(point{MotionState: api.MotionState{Momentum: v * r.Mass}}) {
			if r.beyond(last, distance) {
				continue speeds
			}
		}
		if last.Momentum == 0 {
			break speeds
		}
	}
	return v
}

// zones returns the zones of a way, up to a place; a train's front is never before its length.
func zones(p api.Plan, way []api.Move, t api.Train, last int) []zone {
	begins := []int{0} // where the moves begin on the way, and where the last one ends
	for _, m := range way {
		length, _ := shape.Length(shape.Line(p, m.Rail))
		begins = append(begins, begins[len(begins)-1]+length)
	}
	var borders []int
	for _, b := range begins {
		borders = append(borders, b, b+1, b+t.Length)
	}
	slices.Sort(borders)
	var l []zone
	rear, front := 0, 0 // the moves on which the rear and the front are
	for _, x := range slices.Compact(borders) {
		if x > last {
			break
		}
		for begins[rear+1] <= x-t.Length {
			rear++
		}
		for front+1 < len(way) && begins[front+1] <= x {
			front++
		}
		l = append(l, zone{from: x, slope: slopeOf(p, way[front]), limit: limitOf(p, way, begins, rear, x, t.Speed)})
	}
	return l
}

func slopeOf(p api.Plan, m api.Move) int {
	if m.Back {
		return -p.Rails[m.Rail].Slope
	}
	return p.Rails[m.Rail].Slope
}

// limitOf returns the least of a speed and the limits of the rails on which a train stands whose rear is on a move and whose front at a place.
func limitOf(p api.Plan, way []api.Move, begins []int, rear, front, speed int) int {
	for i := rear; i < len(way) && begins[i] < front; i++ {
		speed = min(speed, p.Rails[way[i].Rail].Limit)
	}
	return speed
}
