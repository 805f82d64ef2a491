package depot

import (
	"cmp"
	"slices"

	"tramline/api"
	"tramline/duty"
	"tramline/track"
)

// tracksOf returns the tracks of a depot, and whether the rails are as defined.
func tracksOf(p api.Plan, rails []int) ([]api.StableTrack, bool) {
	if !within(len(rails), 1, api.StableTracks) {
		return nil, false
	}
	var l []api.StableTrack
	for i, rail := range rails {
		length, err := track.Length(p, rail)
		if err != api.OK || slices.Contains(rails[:i], rail) {
			return nil, false
		}
		r := p.Rails[rail]
		through := p.Nodes[r.From].Kind != api.NodeEnd && p.Nodes[r.To].Kind != api.NodeEnd
		l = append(l, api.StableTrack{Length: min(length, api.StableLength), Through: through})
	}
	return l, true
}

// household is a plan of cars that come home and leave again.
type household struct {
	tasks   []api.Task
	cars    [][]int
	kinds   []int
	lengths []int
	day     int
}

func (h household) right(y api.Yard) bool {
	// Any rules do: layer 8 refuses what is no plan of cars.
	if _, err := duty.Bare(h.tasks, y, h.cars, api.WorkRules{}); err != api.OK {
		return false
	}
	if len(h.kinds) != len(h.cars) || len(h.lengths) != len(h.cars) || !timeRight(h.day) {
		return false
	}
	for i := range h.cars {
		if !kindRight(h.kinds[i]) || !lengthRight(h.lengths[i]) {
			return false
		}
	}
	return true
}

// come returns when a car comes.
func (h household) come(car int) int {
	tasks := h.cars[car]
	return h.tasks[tasks[len(tasks)-1]].Arrive
}

// leave returns when a car leaves.
func (h household) leave(car int) int { return h.tasks[h.cars[car][0]].Depart + h.day }

// sorted returns the cars by times; those of the same time are in the order of the plan.
func (h household) sorted(time func(car int) int) []int {
	cars := make([]int, len(h.cars))
	for i := range cars {
		cars[i] = i
	}
	slices.SortStableFunc(cars, func(a, b int) int { return cmp.Compare(time(a), time(b)) })
	return cars
}

// night returns the cars in the order in which they come, and the departures in which they leave, for lists of cars in these orders.
func (h household) night(coming, going []int) ([]api.StableCar, []api.StableLeave) {
	var cars []api.StableCar
	for _, i := range coming {
		cars = append(cars, api.StableCar{Kind: h.kinds[i], Length: h.lengths[i], Come: h.come(i), Due: api.DutyTime})
	}
	var leaves []api.StableLeave
	for _, i := range going {
		leaves = append(leaves, api.StableLeave{Kind: h.kinds[i], Leave: h.leave(i)})
	}
	return cars, leaves
}
