package lock

import (
	"maps"
	"slices"

	"tramline/api"
)

// board is a setup with cars on it, and the points as they are. The way of a car is never changed in place: each change makes a new list.
type board struct {
	*setup
	cars   map[int]api.LockCar // by name
	points []int
}

func newBoard(s *setup) *board {
	return &board{setup: s, cars: make(map[int]api.LockCar), points: s.firstPoints()}
}

// copied returns a board that can be changed without this one.
func (b *board) copied() *board {
	return &board{setup: b.setup, cars: maps.Clone(b.cars), points: slices.Clone(b.points)}
}

// names returns the names of all cars, in order.
func (b *board) names() []int { return slices.Sorted(maps.Keys(b.cars)) }

// request is a car that asks for a move.
type request struct {
	car  api.LockCar
	move api.Move
}

// The reasons for which a move is refused return the name of the car that is the reason (0 if there is no such car), and whether they apply.

func (b *board) end(r request) (int, bool) {
	way := r.car.Way
	return 0, len(way) > 0 && !b.follows(way[len(way)-1], r.move)
}

func (b *board) own(r request) (int, bool) { return 0, onRail(r.car.Way, r.move.Rail) }

func (b *board) foul(r request) (int, bool) {
	row := b.fouls[[2]int{r.move.Rail, r.car.Profile}]
	return b.first(func(c api.LockCar) bool {
		return c.Name != r.car.Name && slices.ContainsFunc(c.Way, func(m api.Move) bool { return row[b.index(m.Rail, c.Profile)] })
	})
}

func (b *board) held(r request) (int, bool) {
	s, needed := b.needs(r)
	if !needed {
		return 0, false
	}
	return b.first(func(c api.LockCar) bool { return b.holds(c, api.Setting{Node: s.Node, Leg: 3 - s.Leg}) })
}

func (b *board) against(r request) (int, bool) {
	single, up, ok := b.direction(r.move)
	if !ok {
		return 0, false
	}
	return b.first(func(c api.LockCar) bool { return c.Name != r.car.Name && b.leads(c, single, !up) })
}

func (b *board) long(r request) (int, bool) { return 0, len(r.car.Way) == api.MaxHeld }

// first returns the least name of a car that matches.
func (b *board) first(matches func(api.LockCar) bool) (int, bool) {
	least := 0
	for name, c := range b.cars {
		if (least == 0 || name < least) && matches(c) {
			least = name
		}
	}
	return least, least != 0
}

// needs returns the setting that a request needs, and whether it needs one.
func (b *board) needs(r request) (api.Setting, bool) {
	if len(r.car.Way) == 0 {
		return api.Setting{}, false
	}
	return b.setting(r.car.Way[len(r.car.Way)-1], r.move)
}

// holds reports whether a car holds points in a leg.
func (b *board) holds(c api.LockCar, s api.Setting) bool {
	for i := 1; i < len(c.Way); i++ {
		if x, needed := b.setting(c.Way[i-1], c.Way[i]); needed && x == s {
			return true
		}
	}
	return false
}

// leads reports whether a car holds a move of a single in a direction.
func (b *board) leads(c api.LockCar, single int, up bool) bool {
	return slices.ContainsFunc(c.Way, func(m api.Move) bool {
		i, is, ok := b.direction(m)
		return ok && i == single && is == up
	})
}

// grant adds a move to the way of a car, or panics with the refusal.
func (b *board) grant(car api.LockCar, m api.Move) api.LockCar {
	r := request{car: car, move: m}
	// The kinds of refusals are numbered in this order, from 1 on.
	for i, reason := range []func(request) (int, bool){b.end, b.own, b.foul, b.held, b.against, b.long} {
		if name, applies := reason(r); applies {
			panic(api.Refusal{Kind: api.RefusalEnd + api.RefusalKind(i), Car: name})
		}
	}
	if s, needed := b.needs(r); needed {
		b.points[s.Node] = s.Leg
	}
	car.Way = append(slices.Clone(car.Way), m)
	return car
}

// attempt does something during which a refusal may be given up.
func attempt(do func()) (refusal api.Refusal) {
	defer func() {
		switch x := recover().(type) {
		case nil:
		case api.Refusal:
			refusal = x
		default:
			panic(x)
		}
	}()
	do()
	return api.Refusal{}
}

// enter puts a car on a way, move by move, or refuses it wholly.
func (b *board) enter(car api.LockCar, way []api.Move) api.Refusal {
	points := slices.Clone(b.points)
	refusal := attempt(func() {
		for _, m := range way {
			car = b.grant(car, m)
		}
		car.Front = len(way) - 1
		b.cars[car.Name] = car
	})
	if refusal.Kind != 0 {
		b.points = points
	}
	return refusal
}

// ask grants a move to a car, or refuses it.
func (b *board) ask(car api.LockCar, m api.Move) api.Refusal {
	return attempt(func() { b.cars[car.Name] = b.grant(car, m) })
}

// turned returns a car that goes the other way.
func turned(c api.LockCar) api.LockCar {
	way := make([]api.Move, 0, len(c.Way))
	for _, m := range slices.Backward(c.Way) {
		way = append(way, api.Move{Rail: m.Rail, Back: !m.Back})
	}
	c.Way, c.Front = way, len(way)-1
	return c
}

// blocked returns the least name of another car that holds a move of a single against the direction of a car.
func (b *board) blocked(c api.LockCar) (int, bool) {
	least := 0
	for _, m := range c.Way {
		if name, ok := b.against(request{car: c, move: m}); ok && (least == 0 || name < least) {
			least = name
		}
	}
	return least, least != 0
}

// safe reports whether the state of a board is safe.
func (b *board) safe() bool {
	for _, c := range b.cars {
		for i, m := range c.Way {
			r := request{car: c, move: m}
			if _, fouls := b.foul(r); fouls {
				return false
			}
			if _, against := b.against(r); against {
				return false
			}
			if i == 0 {
				continue
			}
			if s, needed := b.setting(c.Way[i-1], m); needed && b.points[s.Node] != s.Leg {
				return false
			}
		}
	}
	return true
}
