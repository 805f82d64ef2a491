package street

import (
	"slices"

	"tramline/api"
)

// tourStreams reports whether a list contains streams of which each two conflict, in strictly increasing order, as many as a tour has.
func tourStreams(j api.Junction, streams []int) bool {
	if !within(len(streams), 2, mostTour) || !someStreams(j, streams) {
		return false
	}
	for _, a := range streams {
		for _, b := range streams {
			if a != b && !conflict(j, a, b) {
				return false
			}
		}
	}
	return true
}

// hopeless is what a search gives up with if it cannot become shorter than what has been found.
type hopeless struct{}

// unlessHopeless does something that may be given up as hopeless.
func unlessHopeless(do func()) {
	defer func() {
		switch x := recover().(type) {
		case nil, hopeless:
		default:
			panic(x)
		}
	}()
	do()
}

// shortest returns the shortest tour of streams, and its length. Tours are tried in lexicographic order, so the first one of several comes first.
func shortest(j api.Junction, streams []int) ([]int, int) {
	var best []int
	least := 0
	var extend func(tour []int, length int)
	extend = func(tour []int, length int) {
		last := tour[len(tour)-1]
		length += j.Streams[last].Least
		if len(tour) == len(streams) {
			length += j.Clears[last][tour[0]]
		}
		if best != nil && length >= least {
			panic(hopeless{})
		}
		if len(tour) == len(streams) {
			best, least = slices.Clone(tour), length
			return
		}
		for _, s := range streams {
			if !slices.Contains(tour, s) {
				unlessHopeless(func() { extend(append(tour, s), length+j.Clears[last][s]) })
			}
		}
	}
	unlessHopeless(func() { extend(streams[:1:1], 0) })
	return best, least
}

// spread returns the program of a tour.
func spread(j api.Junction, tour []int) api.Program {
	sorted := slices.Sorted(slices.Values(tour))
	p := api.Program{Begins: make([]int, len(tour)), Lasts: make([]int, len(tour))}
	now := 0
	for i, s := range tour {
		at := slices.Index(sorted, s)
		p.Begins[at], p.Lasts[at] = now, j.Streams[s].Least
		now += j.Streams[s].Least + j.Clears[s][tour[(i+1)%len(tour)]]
	}
	p.Cycle = now
	return p
}
