package sweep

import (
	"sort"

	"tramline/api"
)

// test is one of the reasons for which two strips are foul: how far two cars reach together, and whether that is far enough.
type test struct {
	reach func(x, y api.Profile) int
	near  func(a, b swept, reach int) bool
}

// tests returns the reasons in the order of the document.
func tests() []test {
	return []test{
		{reach: func(x, y api.Profile) int { return x.Half + y.Half }, near: sidesNear},
		{reach: func(x, y api.Profile) int { return x.Half + x.Swing + y.Half }, near: bendsNear},
		{reach: func(x, y api.Profile) int { return x.Half + y.Half + y.Swing }, near: func(a, b swept, reach int) bool { return bendsNear(b, a, reach) }},
		{reach: func(x, y api.Profile) int { return x.Half + x.Swing + y.Half + y.Swing }, near: bendsBothNear},
	}
}

// sidesNear reports whether the distance of two strips is at most so great.
func sidesNear(a, b swept, reach int) bool {
	if cross(a.from, a.to, b.from, b.to) {
		return true
	}
	for _, s := range separations(a, b) {
		if s.compare(reach) <= 0 {
			return true
		}
	}
	return false
}

// separations returns those of the ends of each strip from the other one; the least one is that of the strips, unless they cross.
func separations(a, b swept) [4]separation {
	return [4]separation{
		fromSegment(a.from, b.from, b.to),
		fromSegment(a.to, b.from, b.to),
		fromSegment(b.from, a.from, a.to),
		fromSegment(b.to, a.from, a.to),
	}
}

// bendsNear reports whether a bend of the first strip is near the second one.
func bendsNear(a, b swept, reach int) bool {
	for _, s := range a.bends {
		if fromSegment(s, b.from, b.to).compare(reach) <= 0 {
			return true
		}
	}
	return false
}

// bendsBothNear reports whether a bend of the first strip is near a bend of the second one.
func bendsBothNear(a, b swept, reach int) bool {
	for _, s := range a.bends {
		for _, u := range b.bends {
			if fromSpot(s, u).compare(reach) <= 0 {
				return true
			}
		}
	}
	return false
}

// far reports whether the boxes of two strips lie so far from each other that nothing in them can be near.
func far(a, b swept, reach int) bool {
	return a.low.X-b.high.X > reach || b.low.X-a.high.X > reach || a.low.Y-b.high.Y > reach || b.low.Y-a.high.Y > reach
}

// foulWithSome reports whether a strip is foul with one of several others.
func foulWithSome(a swept, x api.Profile, others []swept, y api.Profile) bool {
	all := tests()
	found := false
search:
	for _, b := range others {
		for _, t := range all {
			if reach := t.reach(x, y); !far(a, b, reach) && t.near(a, b, reach) {
				found = true
				break search
			}
		}
	}
	return found
}

// gap returns the measured gap of two strips.
func gap(a, b swept) int {
	if cross(a.from, a.to, b.from, b.to) {
		return 0
	}
	most := api.SweepGap
	for _, s := range separations(a, b) {
		most = s.floor(most)
	}
	return most
}

// needs are, for each test, the least reach with which it makes two rails foul.
type needs [4]int

// measure returns the needs of two rails; those that are greater than the most that is asked for are not told apart.
func measure(a, b []swept, most [4]int) needs {
	var n needs
	for i, t := range tests() {
		n[i] = leastReach(a, b, t, most[i])
	}
	return n
}

func leastReach(a, b []swept, t test, most int) int {
	least := most + 1
	for _, s := range a {
		for _, u := range b {
			if least > 0 && !far(s, u, least-1) && t.near(s, u, least-1) {
				least = sort.Search(least, func(reach int) bool { return t.near(s, u, reach) })
			}
		}
	}
	return least
}

// met reports whether two profiles reach far enough for one of the tests.
func (n needs) met(x, y api.Profile) bool {
	for i, t := range tests() {
		if t.reach(x, y) >= n[i] {
			return true
		}
	}
	return false
}

// widest returns, for each test, the most that two of several profiles reach.
func widest(profiles []api.Profile) [4]int {
	var most [4]int
	for i, t := range tests() {
		for _, x := range profiles {
			for _, y := range profiles {
				most[i] = max(most[i], t.reach(x, y))
			}
		}
	}
	return most
}

// fouls returns all pairs of rails and profiles that are foul.
func fouls(p api.Plan, profiles []api.Profile) []api.Foul {
	most := widest(profiles)
	rails := make([][]swept, len(p.Rails))
	for i := range rails {
		rails[i] = along(p, i)
	}
	var l []api.Foul
	for a := range rails {
		row := make([]needs, len(rails))
		for b := a; b < len(rails); b++ {
			row[b] = measure(rails[a], rails[b], most)
		}
		for x := range profiles {
			l = foulsOf(l, api.Foul{RailA: a, ProfileA: x}, row, profiles)
		}
	}
	return l
}

// foulsOf adds the pairs with the same first rail and profile, if the needs of this rail and all later ones are given.
func foulsOf(l []api.Foul, f api.Foul, row []needs, profiles []api.Profile) []api.Foul {
	for b := f.RailA; b < len(row); b++ {
		for y := range profiles {
			if b == f.RailA && y < f.ProfileA {
				continue
			}
			if row[b].met(profiles[f.ProfileA], profiles[y]) {
				f.RailB, f.ProfileB = b, y
				l = append(l, f)
			}
		}
	}
	return l
}
