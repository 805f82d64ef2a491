package depot

import "tramline/api"

func within(x, least, most int) bool { return x >= least && x <= most }

// isOrder reports whether a list contains each number from 0 to n - 1 once.
func isOrder(l []int, n int) bool {
	if len(l) != n {
		return false
	}
	seen := make(map[int]bool, n)
	for _, x := range l {
		if !within(x, 0, n-1) || seen[x] {
			return false
		}
		seen[x] = true
	}
	return true
}

// ranks say as which one each car leaves, in the order in which they come.
type ranks []int

func (r ranks) right() bool { return len(r) <= api.StableMany && isOrder(r, len(r)) }

// onDeadEnd reports whether two cars i < j are in each other's way on a dead-end track.
func (r ranks) onDeadEnd(i, j int) bool { return r[i] < r[j] }

// onThrough reports whether two cars i < j are in each other's way on a through track.
func (r ranks) onThrough(i, j int) bool { return r[j] < r[i] }

// inWay returns what says who is in whose way.
func (r ranks) inWay(through bool) func(i, j int) bool {
	if through {
		return r.onThrough
	}
	return r.onDeadEnd
}

// assign gives each car the first track on which no car is in its way. The cars of a track leave in the same order as they stand, so only the last one matters.
func assign(cars int, inWay func(i, j int) bool) []int {
	tracks := make([]int, cars)
	var lasts []int // for each track, its last car
	for car := range tracks {
		track := 0
		for track < len(lasts) && inWay(lasts[track], car) {
			track++
		}
		if track == len(lasts) {
			lasts = append(lasts, car)
		}
		lasts[track], tracks[car] = car, track
	}
	return tracks
}

// longest returns the first one of the longest lists of cars of which each two are in each other's way.
func longest(cars int, inWay func(i, j int) bool) []int {
	lengths := make([]int, cars) // of the longest list that begins with a car
	most := 0
	for i := cars - 1; i >= 0; i-- {
		lengths[i] = 1
		for j := i + 1; j < cars; j++ {
			if inWay(i, j) {
				lengths[i] = max(lengths[i], lengths[j]+1)
			}
		}
		most = max(most, lengths[i])
	}
	var l []int
	for car := range lengths {
		if lengths[car] == most-len(l) && (len(l) == 0 || inWay(l[len(l)-1], car)) {
			l = append(l, car)
		}
	}
	return l
}

// proves reports whether a list of cars proves that at least so many tracks are needed.
func proves(cars, tracks int, proof []int, inWay func(i, j int) bool) bool {
	if tracks < 0 || len(proof) < tracks {
		return false
	}
	for k, car := range proof {
		if !within(car, 0, cars-1) || k > 0 && proof[k-1] >= car {
			return false
		}
		for _, other := range proof[:k] {
			if !inWay(other, car) {
				return false
			}
		}
	}
	return true
}
