package lock

import (
	"slices"

	"tramline/api"
)

// player is a car with a wish, and how many steps it has made.
type player struct {
	api.Wish
	made int
}

// steps returns how many steps a player makes in all.
func (p *player) steps() int {
	if len(p.Moves) == 0 && p.Exit {
		return 1
	}
	return len(p.Moves)
}

// play is a board on which cars go where they wish.
type play struct {
	*board
	players []player // in the order of names
	left    int      // steps that are left
}

// newPlay returns a board for wishes, on which the cars with wishes have yielded; false if the wishes are not as defined.
func newPlay(b *board, wishes []api.Wish) (*play, bool) {
	p := &play{board: b.copied()}
	seen := make(map[int]bool)
	for _, w := range wishes {
		c, ok := p.cars[w.Name]
		if !ok || seen[w.Name] || len(w.Moves) > mostWish {
			return nil, false
		}
		seen[w.Name] = true
		c = yielded(c)
		p.cars[w.Name] = c
		last := c.Way[c.Front]
		for _, m := range w.Moves {
			if !p.follows(last, m) {
				return nil, false
			}
			last = m
		}
		x := player{Wish: w}
		p.players = append(p.players, x)
		p.left += x.steps()
	}
	slices.SortFunc(p.players, func(x, y player) int { return x.Name - y.Name })
	return p, true
}

// yielded returns a car that holds nothing beyond its front.
func yielded(c api.LockCar) api.LockCar {
	c.Way = slices.Clone(c.Way[:c.Front+1])
	return c
}

// step lets a player make its next step. It returns how to take this back; nil if the step is not possible.
func (p *play) step(x *player) (undo func()) {
	if x.made == x.steps() {
		return nil
	}
	before := p.cars[x.Name]
	now := before
	node, leg := -1, 0 // the points that may change
	var commands []func()
	if len(x.Moves) > 0 {
		m := x.Moves[x.made]
		if s, needed := p.needs(request{car: before, move: m}); needed {
			node, leg = s.Node, p.points[s.Node]
		}
		commands = append(commands,
			func() { now = p.grant(now, m) },
			func() { now.Front++ },
			func() { now.Way, now.Front = now.Way[1:], now.Front-1 })
	}
	commands = append(commands, func() { p.put(now, x.Exit && x.made+1 == x.steps()) })
	if attempt(func() { run(commands) }).Kind != 0 {
		return nil
	}
	x.made++
	p.left--
	return func() {
		x.made--
		p.left++
		p.cars[x.Name] = before
		if node >= 0 {
			p.points[node] = leg
		}
	}
}

func run(commands []func()) {
	for _, command := range commands {
		command()
	}
}

// put notes a car after its step; one that exits is taken away.
func (p *play) put(c api.LockCar, exits bool) {
	if exits {
		delete(p.cars, c.Name)
		return
	}
	p.cars[c.Name] = c
}

// completes reports whether an order completes the wishes.
func (p *play) completes(order []int) bool {
	for _, name := range order {
		i := slices.IndexFunc(p.players, func(x player) bool { return x.Name == name })
		if i < 0 || p.step(&p.players[i]) == nil {
			return false
		}
	}
	return p.left == 0
}

// key returns numbers below 256 as something that can be compared.
func key(numbers ...int) string {
	b := make([]byte, 0, len(numbers))
	for _, n := range numbers {
		b = append(b, byte(n))
	}
	return string(b)
}

// state returns what tells the states of the search apart: the steps that have been made, and the points.
func (p *play) state() string {
	numbers := make([]int, 0, len(p.players)+len(p.points))
	for _, x := range p.players {
		numbers = append(numbers, x.made)
	}
	return key(append(numbers, p.points...)...)
}

// search looks for the first order that completes the wishes.
func (p *play) search() ([]int, api.Errno) {
	seen := map[string]bool{p.state(): true}
	var order []int
	open := false // whether there are too many states
	var look func() bool
	look = func() bool {
		if p.left == 0 {
			return true
		}
		for i := range p.players {
			undo := p.step(&p.players[i])
			if undo == nil {
				continue
			}
			if s := p.state(); !seen[s] {
				if len(seen) == api.MaxLockStates {
					open = true
					return false
				}
				seen[s] = true
				order = append(order, p.players[i].Name)
				if look() || open {
					return !open
				}
				order = order[:len(order)-1]
			}
			undo()
		}
		return false
	}
	found := look()
	switch {
	case open:
		return nil, api.ErrOpen
	case !found:
		return nil, api.ErrNone
	}
	return order, api.OK
}
