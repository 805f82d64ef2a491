// Package track is layer 1: plans of tracks, what follows what on them, ways, and what a car covers. See shared/doc/01-track.md.
package track

import (
	"tramline/api"
	"tramline/shape"
)

// Check returns the error of a plan.
func Check(p api.Plan) api.Errno {
	if _, ok := survey(p); !ok {
		return api.ErrArg
	}
	return api.OK
}

// Length returns the length of a rail.
func Length(p api.Plan, rail int) (int, api.Errno) {
	n, ok := survey(p)
	if !ok || !n.hasRail(rail) {
		return 0, api.ErrArg
	}
	return n.lengths[rail], api.OK
}

// Line returns the line of a rail.
func Line(p api.Plan, rail int) ([]api.Spot, api.Errno) {
	n, ok := survey(p)
	if !ok || !n.hasRail(rail) {
		return nil, api.ErrArg
	}
	return shape.Line(n.Plan, rail), api.OK
}

// Next returns all moves that follow a move.
func Next(p api.Plan, m api.Move) ([]api.Move, api.Errno) {
	n, ok := survey(p)
	if !ok || !n.hasRail(m.Rail) {
		return nil, api.ErrArg
	}
	return moves(n.nexts[number(m)]), api.OK
}

// Follows reports whether a move follows another one.
func Follows(p api.Plan, m, n api.Move) (bool, api.Errno) {
	net, ok := survey(p)
	if !ok || !net.hasRail(m.Rail) || !net.hasRail(n.Rail) {
		return false, api.ErrArg
	}
	return net.follows(number(m), number(n)), api.OK
}

// Between returns the setting that two moves need.
func Between(p api.Plan, m, n api.Move) (api.Setting, api.Errno) {
	net, ok := survey(p)
	if !ok || !net.hasRail(m.Rail) || !net.hasRail(n.Rail) {
		return api.Setting{}, api.ErrArg
	}
	if !net.follows(number(m), number(n)) {
		return api.Setting{}, api.ErrNone
	}
	s, needed := net.setting(number(m), number(n))
	if !needed {
		return api.Setting{}, api.ErrNone
	}
	return s, api.OK
}

// WayLength returns the length of a way.
func WayLength(p api.Plan, way []api.Move) (int, api.Errno) {
	n, w, ok := surveyWay(p, way)
	if !ok {
		return 0, api.ErrArg
	}
	return n.wayLength(w), api.OK
}

// Settings returns the settings of a way.
func Settings(p api.Plan, way []api.Move) ([]api.Setting, api.Errno) {
	n, w, ok := surveyWay(p, way)
	if !ok {
		return nil, api.ErrArg
	}
	var l []api.Setting
	for i := 1; i < len(w); i++ {
		if s, needed := n.setting(w[i-1], w[i]); needed {
			l = append(l, s)
		}
	}
	return l, api.OK
}

// Covers returns what a car on a way covers.
func Covers(p api.Plan, way []api.Move, front, length int) ([]api.Cover, api.Errno) {
	n, w, ok := surveyWay(p, way)
	if !ok || length < 1 || length > front || front > n.wayLength(w) {
		return nil, api.ErrArg
	}
	return n.covers(w, front-length, front), api.OK
}

// Shortest returns the shortest way from a move to a move.
func Shortest(p api.Plan, from, to api.Move) ([]api.Move, api.Errno) {
	n, ok := survey(p)
	if !ok || !n.hasRail(from.Rail) || !n.hasRail(to.Rail) {
		return nil, api.ErrArg
	}
	costs := n.costs(number(to), make([]bool, len(n.nexts)))
	if costs[number(from)].length < 0 {
		return nil, api.ErrNone
	}
	return moves(n.descend(number(from), number(to), costs)), api.OK
}

// Distances returns the distances to a move.
func Distances(p api.Plan, to api.Move) ([]int, api.Errno) {
	n, ok := survey(p)
	if !ok || !n.hasRail(to.Rail) {
		return nil, api.ErrArg
	}
	l := make([]int, len(n.nexts))
	for m, c := range n.costs(number(to), make([]bool, len(n.nexts))) {
		l[m] = c.length
	}
	return l, api.OK
}

// Consistent reports whether a list of distances is consistent.
func Consistent(p api.Plan, to api.Move, distances []int) bool {
	n, ok := survey(p)
	return ok && n.hasRail(to.Rail) && n.consistent(number(to), distances)
}

// Ways returns the first ways of all ways.
func Ways(p api.Plan, from, to api.Move, most int) ([][]api.Move, api.Errno) {
	n, ok := survey(p)
	if !ok || !n.hasRail(from.Rail) || !n.hasRail(to.Rail) || most < 1 || most > api.MaxWays {
		return nil, api.ErrArg
	}
	var l [][]api.Move
	for _, way := range n.ways(number(from), number(to), most) {
		l = append(l, moves(way))
	}
	return l, api.OK
}

// Endless returns which moves are endless.
func Endless(p api.Plan) ([]bool, api.Errno) {
	n, ok := survey(p)
	if !ok {
		return nil, api.ErrArg
	}
	return n.endless(), api.OK
}

// Turns reports whether a rail turns cars.
func Turns(p api.Plan, rail int) (bool, api.Errno) {
	n, ok := survey(p)
	if !ok || !n.hasRail(rail) {
		return false, api.ErrArg
	}
	return n.reaches(2*rail, 2*rail+1) || n.reaches(2*rail+1, 2*rail), api.OK
}
