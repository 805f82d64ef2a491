package depot

import (
	"iter"
	"math/bits"
	"slices"

	"tramline/api"
)

const mostKind = 100

// night is cars that stand on tracks until they leave.
type night struct {
	tracks []api.StableTrack
	cars   []api.StableCar
	leaves []api.StableLeave
}

func (n night) right() bool {
	for _, t := range n.tracks {
		if !within(t.Length, 0, api.StableLength) {
			return false
		}
	}
	return within(len(n.tracks), 1, api.StableTracks) && n.carsRight() && n.leavesRight()
}

func (n night) carsRight() bool {
	for i, c := range n.cars {
		if !kindRight(c.Kind) || !lengthRight(c.Length) || !timeRight(c.Come) || !timeRight(c.Due) || i > 0 && n.cars[i-1].Come > c.Come {
			return false
		}
	}
	return len(n.cars) <= api.StableCars
}

func (n night) leavesRight() bool {
	for i, l := range n.leaves {
		if !kindRight(l.Kind) || !timeRight(l.Leave) || i > 0 && n.leaves[i-1].Leave > l.Leave {
			return false
		}
	}
	return len(n.leaves) == len(n.cars)
}

func kindRight(kind int) bool     { return within(kind, 0, mostKind) }
func lengthRight(length int) bool { return within(length, 1, api.StableLength) }
func timeRight(time int) bool     { return within(time, 0, api.DutyTime) }

// allCome reports whether all cars come before the first one leaves.
func (n night) allCome() bool {
	return len(n.cars) == 0 || n.cars[len(n.cars)-1].Come <= n.leaves[0].Leave
}

// may reports whether a car can have a departure.
func (n night) may(car, departure int) bool {
	c, l := n.cars[car], n.leaves[departure]
	return c.Kind == l.Kind && c.Come <= l.Leave && l.Leave <= c.Due
}

// holds reports whether the tracks of the first cars are long enough for them.
func (n night) holds(at []int) bool {
	left := make([]int, len(n.tracks))
	for car, track := range at {
		left[track] += n.cars[car].Length
		if left[track] > n.tracks[track].Length {
			return false
		}
	}
	return true
}

// blocks reports whether a car stands between another one of the same track and the end at which it leaves.
func (n night) blocks(other, car, track int) bool {
	if n.tracks[track].Through {
		return other < car
	}
	return other > car
}

// isPlan reports whether a plan is one of the night.
func (n night) isPlan(p api.StablePlan) bool {
	if len(p.Tracks) != len(n.cars) || !isOrder(p.Leaves, len(n.cars)) || !n.allCome() {
		return false
	}
	for car, track := range p.Tracks {
		if !within(track, 0, len(n.tracks)-1) || !n.may(car, p.Leaves[car]) {
			return false
		}
	}
	return n.holds(p.Tracks)
}

// moves returns the moves of shunting of a plan.
func (n night) moves(p api.StablePlan) int {
	sum := 0
	for car, track := range p.Tracks {
		for other, too := range p.Tracks {
			if track == too && n.blocks(other, car, track) && p.Leaves[car] < p.Leaves[other] {
				sum++
			}
		}
	}
	return sum
}

// leaving looks for departures of the first cars of a night, which stand on tracks. The other cars can have any departures.
type leaving struct {
	night
	at    []int       // the tracks of the first cars
	fixed []int       // the departures that some of them have already
	known map[int]int // for a departure and a set of cars that are gone before it: with how many moves there is none for the others
}

// possible reports whether the first cars can leave with at most so many moves of shunting.
func (n night) possible(at, fixed []int, moves int) bool {
	l := &leaving{night: n, at: at, fixed: fixed, known: make(map[int]int)}
	return l.goOn(0, 0, moves)
}

// goOn reports whether the cars that are not gone can leave from a departure on.
func (l *leaving) goOn(departure, gone, moves int) bool {
	if departure == len(l.leaves) {
		return gone == 1<<len(l.at)-1
	}
	key := gone*(api.StableCars+1) + departure
	if known, ok := l.known[key]; ok && known >= moves {
		return false
	}
	l.known[key] = moves
	for car := range l.at {
		if gone>>car&1 == 1 || !l.may(car, departure) || car < len(l.fixed) && l.fixed[car] != departure {
			continue
		}
		if needs := l.shunted(car, gone); needs <= moves && l.goOn(departure+1, gone|1<<car, moves-needs) {
			return true
		}
	}
	others := departure - bits.OnesCount(uint(gone))
	return others < len(l.cars)-len(l.at) && l.goOn(departure+1, gone, moves)
}

// shunted returns how many cars are in the way of one that leaves.
func (l *leaving) shunted(car, gone int) int {
	sum := 0
	for other, track := range l.at {
		if track == l.at[car] && gone>>other&1 == 0 && l.blocks(other, car, track) {
			sum++
		}
	}
	return sum
}

// assignments yields, in lexicographic order, tracks for all cars that are long enough, as long as the first cars on theirs are possible.
func (n night) assignments(possible func(at []int) bool) iter.Seq[[]int] {
	return func(yield func([]int) bool) {
		var extend func(at []int) bool
		extend = func(at []int) bool {
			if len(at) == len(n.cars) {
				return yield(slices.Clone(at))
			}
			for track := range n.tracks {
				next := append(at[:len(at):len(at)], track)
				if n.holds(next) && !n.twin(at, track) && possible(next) && !extend(next) {
					return false
				}
			}
			return true
		}
		extend(nil)
	}
}

// twin reports whether a car would come to an empty track although one before it is empty and just as good.
func (n night) twin(at []int, track int) bool {
	if slices.Contains(at, track) {
		return false
	}
	for other := range track {
		if n.tracks[other] == n.tracks[track] && !slices.Contains(at, other) {
			return true
		}
	}
	return false
}

// capped returns the night on tracks that are no longer than all cars together, so that more of them are just as good as each other.
func (n night) capped() night {
	sum := 0
	for _, c := range n.cars {
		sum += c.Length
	}
	n.tracks = slices.Clone(n.tracks)
	for i := range n.tracks {
		n.tracks[i].Length = min(n.tracks[i].Length, sum)
	}
	return n
}

// best returns the best plan, if there is one.
func (n night) best() (api.StablePlan, bool) {
	var plan api.StablePlan
	found := false
	n = n.capped()
	if !n.feasible() {
		return plan, found
	}
search:
	for moves := 0; ; moves++ {
		for at := range n.assignments(func(at []int) bool { return n.possible(at, nil, moves) }) {
			plan, found = api.StablePlan{Tracks: at, Leaves: n.first(at, moves), Moves: moves}, true
			break search
		}
	}
	return plan, found
}

// feasible reports whether there is any plan.
func (n night) feasible() bool {
	// If each car has a track of its own, nobody is in the way of another one.
	alone := night{tracks: make([]api.StableTrack, len(n.cars)), cars: n.cars, leaves: n.leaves}
	own := make([]int, len(n.cars))
	for car := range own {
		own[car] = car
	}
	if !n.allCome() || !alone.possible(own, nil, 0) {
		return false
	}
	for range n.assignments(func([]int) bool { return true }) {
		return true
	}
	return false
}

// first returns the first departures of cars on their tracks with so many moves; there are some.
func (n night) first(at []int, moves int) []int {
	var fixed []int
	for range n.cars {
		for departure := range n.leaves {
			if next := append(fixed, departure); n.possible(at, next, moves) {
				fixed = next
				break
			}
		}
	}
	return fixed
}

// play returns the moves of a plan.
func (n night) play(p api.StablePlan) []api.StableMove {
	var l []api.StableMove
	standing := make([][]int, len(n.tracks)) // the cars of each track; the last one stands at the end at which they leave
	for car, track := range p.Tracks {
		l = append(l, api.StableMove{Kind: api.StableIn, Car: car, Track: track})
		if n.tracks[track].Through {
			standing[track] = append([]int{car}, standing[track]...)
		} else {
			standing[track] = append(standing[track], car)
		}
	}
	for departure := range n.leaves {
		car := slices.Index(p.Leaves, departure)
		track := p.Tracks[car]
		cars := standing[track]
		place := slices.Index(cars, car)
		aside := cars[place+1:]
		for _, other := range slices.Backward(aside) {
			l = append(l, api.StableMove{Kind: api.StableAside, Car: other, Track: track})
		}
		l = append(l, api.StableMove{Kind: api.StableOut, Car: car, Track: track})
		standing[track] = append(cars[:place:place], aside...)
	}
	return l
}
