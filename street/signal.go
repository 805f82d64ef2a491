package street

import (
	"iter"
	"slices"

	"tramline/api"
)

// running is a stream with its light.
type running struct {
	api.Stream
	api.Light
}

// signal is the state of a signal.
type signal struct {
	junction api.Junction
	members  []map[int]bool // for each phase, its streams
	streams  []running
	second   int
	phase    int  // the phase that is on, or to which the signal goes
	on       bool // whether the phase is on
	since    int  // since when it is on
	skipped  []int
	demand   map[int]bool // of the second that is made, as is priority
	priority map[int]bool
}

func newSignal(j api.Junction) *signal {
	s := &signal{junction: clone(j), second: -1, on: true, skipped: make([]int, len(j.Phases))}
	for _, phase := range j.Phases {
		s.members = append(s.members, set(phase))
	}
	for i, x := range j.Streams {
		s.streams = append(s.streams, running{Stream: x, Light: api.Light{Green: s.members[0][i]}})
	}
	return s
}

func set(l []int) map[int]bool {
	m := make(map[int]bool, len(l))
	for _, x := range l {
		m[x] = true
	}
	return m
}

// tick makes a second.
func (s *signal) tick(demand, priority []int) {
	s.second++
	s.demand, s.priority = set(demand), set(priority)
	for _, point := range []func() bool{s.arrive, s.leave} {
		if point() {
			break
		}
	}
	s.demand, s.priority = nil, nil
}

// turn gives a stream another color.
func (s *signal) turn(stream int, green bool) {
	s.streams[stream].Light = api.Light{Green: green, Since: s.second}
}

// arrive turns on those streams of the phase, to which the signal goes, that are cleared. It reports whether the phase is on with this.
func (s *signal) arrive() bool {
	if s.on {
		return false
	}
	s.on = true
	for _, x := range s.junction.Phases[s.phase] {
		if !s.streams[x].Green && s.cleared(x) {
			s.turn(x, true)
		}
		s.on = s.on && s.streams[x].Green
	}
	if s.on {
		s.since = s.second
	}
	return s.on
}

// cleared reports whether all streams that conflict with one have been red for long enough.
func (s *signal) cleared(stream int) bool {
	for a, x := range s.streams {
		if conflict(s.junction, a, stream) && (x.Green || s.second-x.Since < s.junction.Clears[a][stream]) {
			return false
		}
	}
	return true
}

// leave ends the phase that is on, if it is time for this, and goes to the next one.
func (s *signal) leave() bool {
	if !s.on || !s.outside(s.demand) || !s.servedLeast() || !s.over() {
		return false
	}
	last := s.phase
	s.phase, s.on = s.next(), false
	for _, x := range s.junction.Phases[last] {
		if !s.members[s.phase][x] {
			s.turn(x, false)
		}
	}
	s.arrive()
	return true
}

// beyond reports whether a phase has a stream in a set that the phase which is on does not contain.
func (s *signal) beyond(phase int, streams map[int]bool) bool {
	return slices.ContainsFunc(s.junction.Phases[phase], func(x int) bool { return streams[x] && !s.members[s.phase][x] })
}

// inside reports whether the phase that is on has a stream in a set.
func (s *signal) inside(streams map[int]bool) bool {
	return slices.ContainsFunc(s.junction.Phases[s.phase], func(x int) bool { return streams[x] })
}

// circle yields the other phases that have demand, in the order in which they come after the one that is on.
func (s *signal) circle() iter.Seq[int] {
	return func(yield func(int) bool) {
		n := len(s.members)
		for i := 1; i < n; i++ {
			phase := (s.phase + i) % n
			if s.beyond(phase, s.demand) && !yield(phase) {
				return
			}
		}
	}
}

// outside reports whether some stream of a set is not in the phase that is on. Then it is in another one, since each stream is in a phase.
func (s *signal) outside(streams map[int]bool) bool {
	for x := range streams {
		if !s.members[s.phase][x] {
			return true
		}
	}
	return false
}

// servedLeast reports whether all streams of the phase have had green for long enough.
func (s *signal) servedLeast() bool {
	for _, x := range s.junction.Phases[s.phase] {
		if s.streams[x].Green && s.second-s.streams[x].Since < s.streams[x].Least {
			return false
		}
	}
	return true
}

// over reports whether there is a reason to end the phase, if another one has demand.
func (s *signal) over() bool {
	if !s.inside(s.demand) || s.second-s.since >= s.junction.Longest[s.phase] {
		return true
	}
	return s.outside(s.priority) && !s.inside(s.priority)
}

// next returns the phase that comes next, and counts which ones are skipped.
func (s *signal) next() int {
	var order []int
	for phase := range s.circle() {
		order = append(order, phase)
	}
	at := slices.IndexFunc(order, func(phase int) bool { return s.skipped[phase] >= s.junction.Skips })
	if at < 0 {
		at = slices.IndexFunc(order, func(phase int) bool { return s.beyond(phase, s.priority) })
	}
	at = max(at, 0)
	for _, phase := range order[:at] {
		s.skipped[phase]++
	}
	s.skipped[order[at]] = 0
	return order[at]
}

// closed reports whether a move is that of a gate whose stream has no green.
func (s *signal) closed(m api.Move) bool {
	for _, g := range s.junction.Gates {
		if g.Move == m {
			return !s.streams[g.Stream].Green
		}
	}
	return false
}
