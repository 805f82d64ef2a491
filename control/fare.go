package control

import (
	"cmp"
	"math/bits"

	"tramline/api"
)

const (
	zoneKinds   = 20
	mostZones   = 1<<zoneKinds - 1
	mostMinutes = 10000
	mostPrice   = 1000000
	mostRides   = 20
	mostUsed    = 10 // different zones of a journey
)

// zonesRight reports whether there are zones for all stops.
func (c *calendar) zonesRight(z api.Zones) bool {
	stops := 0
	for line := range c.courses {
		for d := range directions {
			stops += len(c.courses[line][d].Stops)
		}
	}
	for _, set := range z.Stops {
		if !within(set, 1, mostZones) {
			return false
		}
	}
	return len(z.Stops) == stops
}

// ticketsRight reports whether tickets are as defined.
func ticketsRight(tickets ...api.Ticket) bool {
	for _, t := range tickets {
		if !within(t.Zones, 0, mostZones) || !within(t.Minutes, 1, mostMinutes) || !within(t.Price, 0, mostPrice) {
			return false
		}
		if t.Zones == 0 && !within(t.Count, 1, zoneKinds) || t.Zones != 0 && t.Count != 0 {
			return false
		}
	}
	return within(len(tickets), 1, api.MaxTickets)
}

// journey is rides with their times, and the zones of all their stops.
type journey struct {
	begins []int
	ends   []int
	zones  [][]int // for each ride, those of its stops
}

// journeyOf returns a journey, and whether its rides are as defined; the zones are.
func (c *calendar) journeyOf(rides []api.Ride, z api.Zones) (journey, bool) {
	var j journey
	if !within(len(rides), 1, mostRides) {
		return j, false
	}
	for i, r := range rides {
		if !c.hasTrip(r.Trip) || r.From < 0 || r.From >= r.To || r.To > c.courseOf(r.Trip).last() {
			return j, false
		}
		begin := c.published(r.Trip, r.From)
		end := c.published(r.Trip, r.To) - c.courseOf(r.Trip).Dwells[r.To]
		if i > 0 && begin < j.ends[i-1] {
			return j, false
		}
		first := c.firstZone(r.Trip)
		j.begins, j.ends = append(j.begins, begin), append(j.ends, end)
		j.zones = append(j.zones, z.Stops[first+r.From:first+r.To+1])
	}
	return j, true
}

// firstZone returns the index of the zones of the first stop of a trip.
func (c *calendar) firstZone(trip int) int {
	t := c.trips[trip]
	index := 0
	for line := range t.Line {
		index += len(c.courses[line][out].Stops) + len(c.courses[line][home].Stops)
	}
	if t.Home {
		index += len(c.courses[t.Line][out].Stops)
	}
	return index
}

// used returns all zones of a journey.
func (j journey) used() int {
	used := 0
	for _, stops := range j.zones {
		for _, set := range stops {
			used |= set
		}
	}
	return used
}

// covers reports whether a ticket covers the rides from one up to another one, which is not included.
func (j journey) covers(t api.Ticket, from, to int) bool {
	if j.ends[to-1]-j.begins[from] > 60*t.Minutes {
		return false
	}
	part := journey{zones: j.zones[from:to]}
	if t.Zones != 0 {
		return part.within(t.Zones)
	}
	// More zones than are used, if the ticket is good for them, do no harm.
	used := part.used()
	for set := used; set > 0; set = (set - 1) & used {
		if bits.OnesCount(uint(set)) <= t.Count && part.within(set) {
			return true
		}
	}
	return false
}

// within reports whether each stop has a zone in a set.
func (j journey) within(set int) bool {
	for _, stops := range j.zones {
		for _, zones := range stops {
			if zones&set == 0 {
				return false
			}
		}
	}
	return true
}

// choice is tickets for the last rides of a journey: what they cost in all, and how many they are; the first one is for some rides.
type choice struct {
	price   int
	tickets int
	first   api.Sold
}

func (c choice) compare(d choice) int {
	return cmp.Or(cmp.Compare(c.price, d.price), cmp.Compare(c.tickets, d.tickets), cmp.Compare(c.first.Rides, d.first.Rides), cmp.Compare(c.first.Ticket, d.first.Ticket))
}

// fare returns the fare of a journey and the first choice for it, and whether there is any.
func (j journey) fare(tickets []api.Ticket) (int, []api.Sold, bool) {
	n := len(j.begins)
	best := make([]choice, n+1) // for the rides from each one on; without tickets, there are none
	for from := n - 1; from >= 0; from-- {
		var all []choice
		for to := from + 1; to <= n; to++ {
			if to < n && best[to].tickets == 0 {
				continue
			}
			for i, t := range tickets {
				if j.covers(t, from, to) {
					all = append(all, choice{price: t.Price + best[to].price, tickets: 1 + best[to].tickets, first: api.Sold{Ticket: i, Rides: to - from}})
				}
			}
		}
		if len(all) > 0 {
			best[from] = least(all, choice.compare)
		}
	}
	var l []api.Sold
	for from := 0; from < n && best[from].tickets > 0; from += best[from].first.Rides {
		l = append(l, best[from].first)
	}
	return best[0].price, l, len(l) > 0
}
