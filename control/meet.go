package control

import (
	"iter"
	"slices"

	"tramline/api"
	"tramline/shape"
	"tramline/sweep"
)

// spell is a part of a course in which a car uses some rails: a leg, or a dwell. Its times count from the departure at the first stop.
type spell struct {
	from  int
	until int
	moves []api.Move
}

// spells yields the legs and the dwells of a course, in the order of time; those of no duration are left out.
func (c *course) spells(p api.Plan) iter.Seq[spell] {
	return func(yield func(spell) bool) {
		places := c.places(p)
		for stop := range c.last() {
			arrival := c.offsets[stop] + c.run(stop)
			if !yield(spell{from: c.offsets[stop], until: arrival, moves: c.Way[places[stop] : places[stop+1]+1]}) {
				return
			}
			at := places[stop+1]
			if stop+1 < c.last() && c.Dwells[stop+1] > 0 && !yield(spell{from: arrival, until: c.offsets[stop+1], moves: c.Way[at : at+1]}) {
				return
			}
		}
	}
}

// places returns, for each stop, the index of the move on which it lies.
func (c *course) places(p api.Plan) []int {
	var places []int
	end := 0
	for i, m := range c.Way {
		length, _ := shape.Length(shape.Line(p, m.Rail))
		end += length
		for len(places) < len(c.Stops) && c.Stops[len(places)] <= end {
			places = append(places, i)
		}
	}
	return places
}

// uses returns what a trip uses.
func (c *calendar) uses(trip int) []api.Use {
	depart := c.trips[trip].Depart
	var l []api.Use
	for s := range c.courseOf(trip).spells(c.Plan) {
		for _, m := range s.moves {
			l = append(l, api.Use{Rail: m.Rail, From: depart + s.from, Until: depart + s.until})
		}
	}
	return l
}

// meeter finds out which trips meet.
type meeter struct {
	*calendar
	profiles int
	spells   [][directions][]spell // by line
	fouls    map[[2]int][]bool     // for a rail and a profile, whether it fouls each rail with each profile
	known    map[[2]int][][]bool   // for two courses, whether each two of their spells foul each other
}

func newMeeter(c *calendar, profiles []api.Profile, fouls []api.Foul) *meeter {
	m := &meeter{calendar: c, profiles: len(profiles), fouls: make(map[[2]int][]bool), known: make(map[[2]int][][]bool)}
	for line := range c.courses {
		var l [directions][]spell
		for d := range l {
			l[d] = slices.Collect(c.courses[line][d].spells(c.Plan))
		}
		m.spells = append(m.spells, l)
	}
	for _, f := range fouls {
		m.note(f.RailA, f.ProfileA, f.RailB, f.ProfileB)
		m.note(f.RailB, f.ProfileB, f.RailA, f.ProfileA)
	}
	return m
}

// note keeps a foul.
func (m *meeter) note(rail, profile, other, otherProfile int) {
	key := [2]int{rail, profile}
	if m.fouls[key] == nil {
		m.fouls[key] = make([]bool, len(m.Plan.Rails)*m.profiles)
	}
	m.fouls[key][other*m.profiles+otherProfile] = true
}

// foul reports whether a rail of a spell of one line fouls a rail of a spell of another one.
func (m *meeter) foul(a spell, line int, b spell, other int) bool {
	for _, x := range a.moves {
		row := m.fouls[[2]int{x.Rail, line % m.profiles}]
		for _, y := range b.moves {
			if row[y.Rail*m.profiles+other%m.profiles] {
				return true
			}
		}
	}
	return false
}

// table returns, for two courses, whether each two of their spells foul each other.
func (m *meeter) table(a, b api.Trip) [][]bool {
	key := [2]int{a.Line*directions + direction(a.Home), b.Line*directions + direction(b.Home)}
	if t, ok := m.known[key]; ok {
		return t
	}
	first, second := m.spells[a.Line][direction(a.Home)], m.spells[b.Line][direction(b.Home)]
	table := make([][]bool, len(first))
	for i, s := range first {
		table[i] = make([]bool, len(second))
		for k, u := range second {
			table[i][k] = m.foul(s, a.Line, u, b.Line)
		}
	}
	m.known[key] = table
	return table
}

// meet returns the first second at which two trips meet, and whether they do.
func (m *meeter) meet(a, b api.Trip) (int, bool) {
	table := m.table(a, b)
	first, second := m.spells[a.Line][direction(a.Home)], m.spells[b.Line][direction(b.Home)]
	for i, k := 0, 0; i < len(first) && k < len(second); {
		from := max(a.Depart+first[i].from, b.Depart+second[k].from)
		ends, too := a.Depart+first[i].until, b.Depart+second[k].until
		if from < min(ends, too) && table[i][k] {
			return from, true
		}
		if ends <= too {
			i++
		} else {
			k++
		}
	}
	return 0, false
}

// meetings returns all meetings. Trips are in the order of their departures, so those that depart after a trip has arrived need not be looked at.
func (m *meeter) meetings() []api.Meeting {
	var l []api.Meeting
	for a, trip := range m.trips {
		arrival := m.published(a, m.courseOf(a).last())
		for b := a + 1; b < len(m.trips) && m.trips[b].Depart < arrival; b++ {
			if at, ok := m.meet(trip, m.trips[b]); ok {
				l = append(l, api.Meeting{A: a, B: b, At: at})
			}
		}
	}
	return l
}

// foulsOf returns the fouls of a plan for profiles, and whether layer 2 takes them.
func foulsOf(p api.Plan, profiles []api.Profile) ([]api.Foul, bool) {
	l, err := sweep.Fouls(p, profiles)
	return l, err == api.OK
}
