package street_test

import (
	"math"
	"reflect"
	"slices"
	"testing"

	"tramline/api"
	"tramline/lock"
	"tramline/sample"
	"tramline/street"
)

func open(t *testing.T, j api.Junction) *street.Signal {
	t.Helper()
	s, e := street.Open(j)
	if e != api.OK || s == nil {
		t.Fatal(e)
	}
	return s
}

// TestExample is for P6.3: the chapter's example, second by second.
func TestExample(t *testing.T) {
	j := example()
	s := open(t, j)
	j.Clears[0][1], j.Phases[0][0], j.Streams[0].Least, j.Longest[1] = 60, 1, 120, 600 // the signal does not keep what it was given
	if p, on := s.Phase(); p != 0 || !on || s.Second() != -1 || !slices.Equal(s.Lights(), []api.Light{{Green: true}, {}, {Green: true}}) {
		t.Error(p, on, s.Second(), s.Lights())
	}
	since := map[int][]api.Light{
		0:  {{Green: true}, {}, {Green: true}},
		6:  {{Since: 6}, {}, {Since: 6}},
		13: {{Since: 6}, {Green: true, Since: 13}, {Since: 6}},
		43: {{Since: 6}, {Since: 43}, {Since: 6}},
		45: {{Since: 6}, {Since: 43}, {Green: true, Since: 45}},
		47: {{Green: true, Since: 47}, {Since: 43}, {Green: true, Since: 45}},
	}
	var want []api.Light
	for second := range 60 {
		demand := []int{1}
		if second >= 14 {
			demand = []int{0, 1}
		}
		if e := s.Tick(demand, nil); e != api.OK || s.Second() != second {
			t.Fatal(second, s.Second(), e)
		}
		if l := since[second]; l != nil {
			want = l
		}
		if l := s.Lights(); !slices.Equal(l, want) {
			t.Fatal(second, l, want)
		}
		p, on := s.Phase()
		if second < 6 && (p != 0 || !on) || second >= 6 && second < 43 && (p != 1 || on != (second >= 13)) || second >= 43 && (p != 0 || on != (second >= 47)) {
			t.Fatal(second, p, on)
		}
	}
	s.Lights()[0].Green = false
	if !s.Lights()[0].Green {
		t.Error("lights share memory with the signal")
	}
}

// TestTickArguments is for P6.3: lists that are not as defined change nothing; nil and zero signals.
func TestTickArguments(t *testing.T) {
	s := open(t, example())
	for _, c := range [][2][]int{{{3}, nil}, {{-1}, nil}, {{0, 0}, nil}, {{1, 0}, nil}, {{0}, {1}}, {nil, {0}}, {{1}, {1}}, {{0, 2}, {0, 2}}, {{0}, {0, 0}}, {{math.MaxInt}, {math.MinInt}}, {{0}, {-1, 0}}} {
		if e := s.Tick(c[0], c[1]); e != api.ErrArg || s.Second() != -1 {
			t.Error(c, e, s.Second())
		}
	}
	if e := s.Tick([]int{0, 1, 2}, []int{0}); e != api.OK || s.Second() != 0 {
		t.Error(e, s.Second())
	}
	for _, s := range []*street.Signal{nil, {}} {
		p, on := s.Phase()
		if e := s.Tick(nil, nil); e != api.ErrNil || len(s.Lights()) > 0 || s.Second() != -1 || p != 0 || on {
			t.Error(e)
		}
	}
}

// model is a signal as the document defines it.
type model struct {
	j        api.Junction
	second   int
	phase    int
	on       bool
	since    int
	green    []bool
	from     []int
	skipped  []int
	demand   []int
	priority []int
}

func newModel(j api.Junction) *model {
	m := &model{j: j, second: -1, on: true, green: make([]bool, len(j.Streams)), from: make([]int, len(j.Streams)), skipped: make([]int, len(j.Phases))}
	for _, x := range j.Phases[0] {
		m.green[x] = true
	}
	return m
}

func (m *model) goOn() {
	all := true
	for _, x := range m.j.Phases[m.phase] {
		may := true
		for a := range m.j.Streams {
			if m.j.Clears[a][x] >= 0 && (m.green[a] || m.second-m.from[a] < m.j.Clears[a][x]) {
				may = false
			}
		}
		if !m.green[x] && may {
			m.green[x], m.from[x] = true, m.second
		}
		all = all && m.green[x]
	}
	if all {
		m.on, m.since = true, m.second
	}
}

// some reports whether a phase has a stream of a list that another phase does not contain.
func (m *model) some(phase int, list []int, without []int) bool {
	return slices.ContainsFunc(m.j.Phases[phase], func(x int) bool { return slices.Contains(list, x) && !slices.Contains(without, x) })
}

func (m *model) candidates() []int {
	var l []int
	for i := m.phase + 1; i < m.phase+len(m.j.Phases); i++ {
		if q := i % len(m.j.Phases); m.some(q, m.demand, m.j.Phases[m.phase]) {
			l = append(l, q)
		}
	}
	return l
}

func (m *model) ends() bool {
	p := m.j.Phases[m.phase]
	for _, x := range p {
		if m.green[x] && m.second-m.from[x] < m.j.Streams[x].Least {
			return false
		}
	}
	foreign := slices.ContainsFunc(m.priority, func(x int) bool { return !slices.Contains(p, x) })
	return len(m.candidates()) > 0 && (!m.some(m.phase, m.demand, nil) || m.second-m.since >= m.j.Longest[m.phase] || foreign && !m.some(m.phase, m.priority, nil))
}

func (m *model) tick(demand, priority []int) {
	m.second++
	m.demand, m.priority = demand, priority
	if !m.on {
		m.goOn()
		return
	}
	if !m.ends() {
		return
	}
	l := m.candidates()
	chosen := -1
	for i, q := range l {
		if chosen < 0 && m.skipped[q] >= m.j.Skips {
			chosen = i
		}
	}
	for i, q := range l {
		if chosen < 0 && m.some(q, priority, m.j.Phases[m.phase]) {
			chosen = i
		}
	}
	chosen = max(chosen, 0)
	for _, q := range l[:chosen] {
		m.skipped[q]++
	}
	last := m.j.Phases[m.phase]
	m.phase, m.on = l[chosen], false
	m.skipped[m.phase] = 0
	for _, x := range last {
		if !slices.Contains(m.j.Phases[m.phase], x) {
			m.green[x], m.from[x] = false, m.second
		}
	}
	m.goOn()
}

// habit says how often each stream has demand, and asks for priority.
type habit struct {
	demand   []int
	priority []int
}

func randomHabit(r *sample.Rand, j api.Junction) habit {
	var h habit
	for range j.Streams {
		h.demand = append(h.demand, []int{0, 5, 50, 95, 100}[r.Below(5)])
		h.priority = append(h.priority, []int{0, 20, 90, 100}[r.Below(4)])
	}
	return h
}

// ask returns the streams that have demand, and those that ask for priority.
func (h habit) ask(r *sample.Rand, j api.Junction) ([]int, []int) {
	var demand, priority []int
	for x, s := range j.Streams {
		if r.Often(h.demand[x]) {
			demand = append(demand, x)
			if s.Kind == api.StreamCar && r.Often(h.priority[x]) {
				priority = append(priority, x)
			}
		}
	}
	return demand, priority
}

// TestSignal is for P6.3, P6.4 and P6.5: signals against the model; no conflicts, clearing times, least greens, and the bound.
func TestSignal(t *testing.T) {
	skips := 0
	for seed := range 400 {
		r := sample.New(seed)
		j := random(r)
		s, m, w := open(t, j), newModel(j), newWatch(t, j)
		h := randomHabit(r, j)
		for second := range 600 {
			if second%200 == 199 {
				h = randomHabit(r, j)
			}
			demand, priority := h.ask(r, j)
			if e := s.Tick(demand, priority); e != api.OK {
				t.Fatal(seed, e)
			}
			m.tick(demand, priority)
			p, on := s.Phase()
			lights := s.Lights()
			if p != m.phase || on != m.on || s.Second() != second {
				t.Fatal(seed, second, p, on, m)
			}
			for x, l := range lights {
				if l.Green != m.green[x] || l.Since != m.from[x] {
					t.Fatal(seed, second, x, l, m)
				}
			}
			w.look(seed, second, lights, demand)
		}
		for _, n := range m.skipped {
			skips = max(skips, n)
		}
	}
	if skips < 2 {
		t.Error("the samples are too simple:", skips)
	}
}

// watch looks at the lights of a signal, without knowing how they come about.
type watch struct {
	t       *testing.T
	j       api.Junction
	bound   int
	green   []bool
	begun   []int
	ended   []int
	waiting []int // since when each stream has had demand without green
}

func newWatch(t *testing.T, j api.Junction) *watch {
	n := len(j.Streams)
	w := &watch{t: t, j: j, green: make([]bool, n), begun: make([]int, n), ended: slices.Repeat([]int{-1000}, n), waiting: slices.Repeat([]int{-1}, n)}
	w.bound, _ = street.Bound(j)
	for _, x := range j.Phases[0] {
		w.green[x] = true
	}
	return w
}

func (w *watch) look(seed, second int, lights []api.Light, demand []int) {
	w.t.Helper()
	for a, l := range lights {
		if w.green[a] && !l.Green {
			if second-w.begun[a] < w.j.Streams[a].Least {
				w.t.Fatal(seed, second, a, "green was too short")
			}
			w.ended[a] = second
		}
		if !w.green[a] && l.Green {
			w.begun[a] = second
		}
		w.green[a] = l.Green
	}
	for a, l := range lights {
		for b, k := range lights {
			if w.j.Clears[a][b] >= 0 && l.Green && (k.Green || w.begun[a] == second && second-w.ended[b] < w.j.Clears[b][a]) {
				w.t.Fatal(seed, second, a, b, "green together, or too soon")
			}
		}
		if l.Green || !slices.Contains(demand, a) {
			w.waiting[a] = -1
		} else if w.waiting[a] < 0 {
			w.waiting[a] = second
		}
		if w.waiting[a] >= 0 && second-w.waiting[a] > w.bound {
			w.t.Fatal(seed, second, a, "has waited for too long", w.bound)
		}
	}
}

// TestPriority is for P6.3: priority ends a phase early and is served out of turn, until another phase has been skipped too often.
func TestPriority(t *testing.T) {
	j := conflicting(sample.New(1), 4, 0)
	for i := range j.Streams {
		j.Streams[i].Least, j.Longest[i] = 2, 10
	}
	j.Skips = 2
	s := open(t, j)
	all := []int{0, 1, 2, 3}
	var phases []int
	for range 60 {
		p, _ := s.Phase()
		if len(phases) == 0 || phases[len(phases)-1] != p {
			phases = append(phases, p)
		}
		if e := s.Tick(all, []int{3}); e != api.OK {
			t.Fatal(e)
		}
	}
	// 1 and 2 are skipped twice, then 1 is next, then, at the latest after its Least, 2, and so on.
	if want := []int{0, 3, 0, 3}; !slices.Equal(phases[:4], want) {
		t.Error(phases)
	}
	if want := []int{1, 2, 3}; !slices.Equal(phases[4:7], want) {
		t.Error(phases)
	}
}

// TestNothing is for P6.7: without demand nothing changes, nor with a single phase.
func TestNothing(t *testing.T) {
	for seed := range 60 {
		r := sample.New(seed)
		j := random(r)
		quiet := open(t, j)
		one := j
		one.Phases, one.Longest = nil, []int{20}
		one.Clears = slices.Clone(j.Clears)
		var phase []int
		for x := range j.Streams {
			phase = append(phase, x)
			one.Clears[x] = slices.Repeat([]int{-1}, len(j.Streams))
		}
		one.Phases = [][]int{phase}
		single := open(t, one)
		h := randomHabit(r, j)
		before, always := quiet.Lights(), single.Lights()
		for range 100 {
			demand, priority := h.ask(r, j)
			if quiet.Tick(nil, nil) != api.OK || single.Tick(demand, priority) != api.OK {
				t.Fatal(seed)
			}
			if !slices.Equal(quiet.Lights(), before) || !slices.Equal(single.Lights(), always) {
				t.Fatal(seed, quiet.Lights(), single.Lights())
			}
		}
	}
}

// TestAsk is for P6.6: gates, and what comes before them.
func TestAsk(t *testing.T) {
	setup := api.LockSetup{Plan: sample.Example(), Profiles: []api.Profile{{Half: 10}}}
	l, e := lock.New(setup)
	if e != api.OK {
		t.Fatal(e)
	}
	l.Enter(7, 0, []api.Move{{Rail: 0}})
	j := example()
	gate, free := api.Move{Rail: 2}, api.Move{Rail: 1}
	j.Streams[1].Kind = api.StreamCar
	j.Gates = []api.Gate{{Move: api.Move{Rail: 99}, Stream: 1}, {Move: gate, Stream: 1}}
	s := open(t, j)
	before := l.Cars()
	for _, c := range []struct {
		s    *street.Signal
		l    *lock.Lock
		name int
		m    api.Move
		want api.Errno
	}{
		{nil, l, 7, gate, api.ErrNil}, {&street.Signal{}, l, 7, gate, api.ErrNil}, {s, nil, 7, gate, api.ErrNil}, {s, &lock.Lock{}, 7, gate, api.ErrNil}, {s, nil, 0, api.Move{Rail: 99}, api.ErrNil}, {nil, nil, 0, gate, api.ErrNil},
		{s, l, 7, gate, api.ErrRule}, {s, l, 0, gate, api.ErrArg}, {s, l, 1000001, gate, api.ErrArg}, {s, l, 8, gate, api.ErrNone}, {s, l, 7, api.Move{Rail: 99}, api.ErrArg}, {s, l, 8, api.Move{Rail: 99}, api.ErrArg}, {s, l, 8, free, api.ErrNone},
	} {
		if r, e := street.Ask(c.s, c.l, c.name, c.m); r != (api.Refusal{}) || e != c.want {
			t.Error(c, r, e)
		}
	}
	// Without a gate the lock alone decides: the opposite move needs no green, but it does not follow.
	if r, e := street.Ask(s, l, 7, api.Move{Rail: 2, Back: true}); r != (api.Refusal{Kind: api.RefusalEnd}) || e != api.ErrRule {
		t.Error(r, e)
	}
	if cars := l.Cars(); !reflect.DeepEqual(cars, before) || !slices.Equal(l.Points(), []int{0, 1, 0, 0}) {
		t.Error(cars, l.Points())
	}
	for s.Second() < 13 {
		if r, e := street.Ask(s, l, 7, gate); r != (api.Refusal{}) || e != api.ErrRule {
			t.Error(s.Second(), r, e)
		}
		s.Tick([]int{1}, nil)
	}
	l.Enter(8, 0, []api.Move{{Rail: 1}})
	if r, e := street.Ask(s, l, 7, gate); e != api.OK || r != (api.Refusal{}) {
		t.Error(r, e)
	}
	if !lock.Safe(setup, l.Cars(), l.Points()) || l.Points()[1] != 2 {
		t.Error(l.Cars(), l.Points())
	}
}

// TestGateRefused is for P6.6: with green, the lock may still refuse.
func TestGateRefused(t *testing.T) {
	l, _ := lock.New(api.LockSetup{Plan: sample.Lines([]api.Spot{{}, {X: 9}}, []api.Spot{{Y: 9}, {X: 9, Y: 9}}), Profiles: []api.Profile{{Half: 1}}})
	l.Enter(1, 0, []api.Move{{}})
	j := example()
	j.Gates = []api.Gate{{Move: api.Move{Rail: 1}}}
	if r, e := street.Ask(open(t, j), l, 1, api.Move{Rail: 1}); r != (api.Refusal{Kind: api.RefusalEnd}) || e != api.ErrRule {
		t.Error(r, e)
	}
}
