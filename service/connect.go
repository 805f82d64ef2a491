package service

import (
	"slices"

	"tramline/api"
)

const mostWait = 7200

// connectionsRight reports whether connections are as defined.
func connectionsRight(tables []timetable, connections []api.Connection) bool {
	for _, c := range connections {
		if !within(c.FromLine, 0, len(tables)-1) || !within(c.ToLine, 0, len(tables)-1) {
			return false
		}
		from := len(tables[c.FromLine].offsets[direction(c.FromHome)])
		to := len(tables[c.ToLine].offsets[direction(c.ToHome)])
		if !within(c.FromStop, 1, from-1) || !within(c.ToStop, 0, to-2) {
			return false
		}
		if c.Least < 0 || c.Least > c.Most || c.Most > mostWait {
			return false
		}
	}
	return len(connections) <= api.MaxConnections
}

// sameHeadway reports whether all lines have the same headway.
func sameHeadway(tables []timetable) bool {
	return !slices.ContainsFunc(tables, func(t timetable) bool { return t.headway != tables[0].headway })
}

// wait returns the wait of a connection.
func wait(tables []timetable, c api.Connection) int {
	from, to := &tables[c.FromLine], &tables[c.ToLine]
	arrival := from.arrival(direction(c.FromHome), c.FromStop, 0)
	departure := to.departure(direction(c.ToHome), c.ToStop, 0)
	return c.Least + modulo(departure-arrival-c.Least, from.headway)
}

// keeps reports whether all connections are kept.
func keeps(tables []timetable, connections []api.Connection) bool {
	return !slices.ContainsFunc(connections, func(c api.Connection) bool { return wait(tables, c) > c.Most })
}

// tooMany is what the search for offsets gives up with.
type tooMany struct{}

// connect sets the offsets of lines to the first ones that keep all connections.
func connect(tables []timetable, connections []api.Connection) (err api.Errno) {
	defer func() {
		switch x := recover().(type) {
		case nil:
		case tooMany:
			err = api.ErrOpen
		default:
			panic(x)
		}
	}()
	// A connection is looked at as soon as both of its lines have offsets.
	due := make([][]api.Connection, len(tables))
	for _, c := range connections {
		last := max(c.FromLine, c.ToLine)
		due[last] = append(due[last], c)
	}
	tries := 0
	var extend func(line int) bool
	extend = func(line int) bool {
		if line == len(tables) {
			return true
		}
		for offset := range tables[line].headway {
			if tries == api.MaxOffsets {
				panic(tooMany{})
			}
			tries++
			tables[line].offset = offset
			if keeps(tables, due[line]) && extend(line+1) {
				return true
			}
		}
		return false
	}
	if !keeps(tables, due[0]) || !extend(1) {
		return api.ErrNone
	}
	return api.OK
}
