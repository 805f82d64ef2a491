package control

// limit says that a car may be ready as late as this, if so many stops may still be cut.
type limit struct {
	cost  int
	ready int
}

// limits are the latest times for all numbers of cut stops: a greater number is listed only if it allows more.
type limits []limit

// add adds a limit that costs no less than all others, if it allows more.
func (l limits) add(x limit) limits {
	last := len(l) - 1
	switch {
	case last >= 0 && l[last].ready >= x.ready:
		return l
	case last >= 0 && l[last].cost == x.cost:
		l[last] = x
		return l
	}
	return append(l, x)
}

// moved returns limits that cost more, and are earlier by some seconds.
func (l limits) moved(cost, seconds int) limits {
	m := make(limits, 0, len(l))
	for _, x := range l {
		m = append(m, limit{cost: x.cost + cost, ready: x.ready - seconds})
	}
	return m
}

// capped returns limits none of which is later than a time.
func (l limits) capped(latest int) limits {
	var m limits
	for _, x := range l {
		m = m.add(limit{cost: x.cost, ready: min(x.ready, latest)})
	}
	return m
}

// or returns the limits of a car that can do the one or the other.
func (l limits) or(m limits) limits {
	both := make(limits, 0, len(l)+len(m))
	for len(l) > 0 || len(m) > 0 {
		if len(m) == 0 || len(l) > 0 && l[0].cost <= m[0].cost {
			both, l = both.add(l[0]), l[1:]
		} else {
			both, m = both.add(m[0]), m[1:]
		}
	}
	return both
}

// allow reports whether a car that is ready at a time needs no more cut stops.
func (l limits) allow(x limit) bool {
	for _, y := range l {
		if y.cost <= x.cost && y.ready >= x.ready {
			return true
		}
	}
	return false
}
