package control

import (
	"cmp"
	"slices"

	"tramline/api"
)

// sign is a stop of a course, at which departures are shown.
type sign struct {
	line int
	home bool
	stop int
}

// signRight reports whether there is such a stop, from which trips depart.
func (c *calendar) signRight(s sign) bool {
	return within(s.line, 0, len(c.courses)-1) && within(s.stop, 0, c.courses[s.line][direction(s.home)].last()-1)
}

// signs returns what is shown at a stop at a second.
func (c *calendar) signs(rides []ride, s sign, second int) []api.Shown {
	var l []api.Shown
	for trip, t := range c.trips {
		if t.Line != s.line || t.Home != s.home {
			continue
		}
		x := api.Shown{Trip: trip, Published: c.published(trip, s.stop), Cut: rides[trip].cut(s.stop)}
		if !x.Cut {
			x.Actual = rides[trip].departs[s.stop]
		}
		if x.Published >= second || !x.Cut && x.Actual >= second {
			l = append(l, x)
		}
	}
	slices.SortFunc(l, shown{}.compare)
	return l
}

// shown compares departures that are shown.
type shown struct{}

func (shown) byPublished(a, b api.Shown) int { return cmp.Compare(a.Published, b.Published) }

func (shown) byTrip(a, b api.Shown) int { return cmp.Compare(a.Trip, b.Trip) }

func (s shown) compare(a, b api.Shown) int {
	for _, by := range []func(a, b api.Shown) int{s.byPublished, s.byTrip} {
		if c := by(a, b); c != 0 {
			return c
		}
	}
	return 0
}
