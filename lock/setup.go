package lock

import (
	"slices"

	"tramline/api"
	"tramline/sweep"
	"tramline/track"
)

const (
	mostName   = 1000000
	mostSingle = 100
	mostWish   = 60
)

// line is where a rail belongs to a single: its index, and the move of its up direction.
type line struct {
	single int
	up     api.Move
}

// setup is a valid setup with what follows from it, in memory of its own.
type setup struct {
	api.LockSetup
	links map[[2]api.Move]api.Setting // two moves of which the second one follows, with the setting that they need, if any
	fouls map[[2]int][]bool           // for a rail and a profile, whether it fouls each rail with each profile
	lines map[int]line                // by rail
}

func newSetup(s api.LockSetup) *setup {
	x := &setup{LockSetup: clone(s)}
	x.link()
	x.findFouls()
	x.lines = make(map[int]line)
	for i, single := range x.Singles {
		for _, m := range single.Moves {
			x.lines[m.Rail] = line{single: i, up: m}
		}
	}
	return x
}

// clone copies a setup with all its lists.
func clone(s api.LockSetup) api.LockSetup {
	c := api.LockSetup{Profiles: slices.Clone(s.Profiles), Singles: slices.Clone(s.Singles)}
	c.Plan = api.Plan{Nodes: slices.Clone(s.Plan.Nodes), Rails: slices.Clone(s.Plan.Rails)}
	for i := range c.Plan.Nodes {
		c.Plan.Nodes[i].Ends = slices.Clone(c.Plan.Nodes[i].Ends)
	}
	for i := range c.Plan.Rails {
		c.Plan.Rails[i].Shape = slices.Clone(c.Plan.Rails[i].Shape)
	}
	for i := range c.Singles {
		c.Singles[i].Moves = slices.Clone(c.Singles[i].Moves)
	}
	return c
}

// setupRight reports whether a setup is as defined.
func setupRight(s api.LockSetup) bool {
	if track.Check(s.Plan) != api.OK || len(s.Profiles) < 1 || len(s.Profiles) > api.SweepProfiles {
		return false
	}
	for _, x := range s.Profiles {
		// Any strip does: layer 2 refuses profiles that are not as defined.
		if _, err := sweep.Foul(s.Plan, api.Strip{}, x, api.Strip{}, x); err != api.OK {
			return false
		}
	}
	return singlesRight(s)
}

func singlesRight(s api.LockSetup) bool {
	if len(s.Singles) > api.MaxSingles {
		return false
	}
	used := make([]bool, len(s.Plan.Rails))
	for _, single := range s.Singles {
		if len(single.Moves) < 1 || len(single.Moves) > mostSingle {
			return false
		}
		for _, m := range single.Moves {
			if m.Rail < 0 || m.Rail >= len(used) || used[m.Rail] {
				return false
			}
			used[m.Rail] = true
		}
	}
	return true
}

// link finds out which moves follow each other, and which settings they need.
func (s *setup) link() {
	s.links = make(map[[2]api.Move]api.Setting)
	for i := range 2 * len(s.Plan.Rails) {
		m := api.Move{Rail: i / 2, Back: i%2 == 1}
		next, _ := track.Next(s.Plan, m)
		for _, n := range next {
			s.links[[2]api.Move{m, n}], _ = track.Between(s.Plan, m, n)
		}
	}
}

func (s *setup) findFouls() {
	s.fouls = make(map[[2]int][]bool)
	for rail := range s.Plan.Rails {
		for profile := range s.Profiles {
			s.fouls[[2]int{rail, profile}] = make([]bool, len(s.Plan.Rails)*len(s.Profiles))
		}
	}
	l, _ := sweep.Fouls(s.Plan, s.Profiles)
	for _, f := range l {
		s.fouls[[2]int{f.RailA, f.ProfileA}][s.index(f.RailB, f.ProfileB)] = true
		s.fouls[[2]int{f.RailB, f.ProfileB}][s.index(f.RailA, f.ProfileA)] = true
	}
}

// index is the place of a rail and a profile in a list of fouls.
func (s *setup) index(rail, profile int) int { return rail*len(s.Profiles) + profile }

func (s *setup) hasRail(rail int) bool { return rail >= 0 && rail < len(s.Plan.Rails) }

// follows reports whether a move follows another one.
func (s *setup) follows(m, next api.Move) bool {
	_, ok := s.links[[2]api.Move{m, next}]
	return ok
}

// setting returns the setting that two moves need that follow each other, and whether they need one.
func (s *setup) setting(m, next api.Move) (api.Setting, bool) {
	x := s.links[[2]api.Move{m, next}]
	return x, x.Leg != 0
}

// direction returns the single that a move belongs to and whether the move leads up there; false if it belongs to none.
func (s *setup) direction(m api.Move) (single int, up, ok bool) {
	l, ok := s.lines[m.Rail]
	return l.single, l.up == m, ok
}

// wayRight reports whether a car may hold a list of moves.
func (s *setup) wayRight(way []api.Move) bool {
	if len(way) < 1 || len(way) > api.MaxHeld {
		return false
	}
	for i, m := range way {
		if !s.hasRail(m.Rail) || onRail(way[:i], m.Rail) || i > 0 && !s.follows(way[i-1], m) {
			return false
		}
	}
	return true
}

// onRail reports whether some move of a way is on a rail.
func onRail(way []api.Move, rail int) bool {
	return slices.ContainsFunc(way, func(m api.Move) bool { return m.Rail == rail })
}

func nameRight(name int) bool { return name >= 1 && name <= mostName }

// firstPoints returns where all points are at first.
func (s *setup) firstPoints() []int {
	points := make([]int, len(s.Plan.Nodes))
	for i, n := range s.Plan.Nodes {
		if n.Kind == api.NodeSet {
			points[i] = 1
		}
	}
	return points
}

// pointsRight reports whether there are points for all nodes.
func (s *setup) pointsRight(points []int) bool {
	if len(points) != len(s.Plan.Nodes) {
		return false
	}
	for i, n := range s.Plan.Nodes {
		if n.Kind == api.NodeSet && points[i] != 1 && points[i] != 2 || n.Kind != api.NodeSet && points[i] != 0 {
			return false
		}
	}
	return true
}

// carRight reports whether a car is as defined.
func (s *setup) carRight(c api.LockCar) bool {
	return nameRight(c.Name) && c.Profile >= 0 && c.Profile < len(s.Profiles) && s.wayRight(c.Way) && c.Front >= 0 && c.Front < len(c.Way)
}
