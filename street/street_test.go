package street_test

import (
	"math"
	"slices"
	"testing"

	"tramline/api"
	"tramline/sample"
	"tramline/street"
)

// example returns the junction of the chapter.
func example() api.Junction {
	return api.Junction{
		Streams: []api.Stream{{Kind: api.StreamCar, Least: 5}, {Kind: api.StreamTraffic, Least: 8}, {Kind: api.StreamWalk, Least: 6}},
		Clears:  [][]int{{-1, 3, -1}, {4, -1, 2}, {-1, 7, -1}},
		Phases:  [][]int{{0, 2}, {1}},
		Longest: []int{20, 30},
		Skips:   1,
	}
}

// random returns a junction that looks random.
func random(r *sample.Rand) api.Junction {
	var j api.Junction
	n := r.From(1, 7)
	j.Clears = make([][]int, n)
	for a := range n {
		j.Streams = append(j.Streams, api.Stream{Kind: api.StreamKind(r.From(1, 3)), Least: r.From(1, 9)})
		j.Clears[a] = slices.Repeat([]int{-1}, n)
		for b := range a {
			if r.Often(50) {
				j.Clears[a][b], j.Clears[b][a] = r.From(0, 6), r.From(0, 6)
			}
		}
	}
	served := map[int]bool{}
	for len(served) < n || len(j.Phases) < 4 && r.Often(30) {
		phase := randomPhase(r, j, served)
		longest := r.From(1, 20)
		for _, s := range phase {
			longest = max(longest, j.Streams[s].Least)
		}
		j.Phases, j.Longest = append(j.Phases, phase), append(j.Longest, longest)
	}
	j.Skips = r.From(0, 3)
	return j
}

// randomPhase returns a phase with a stream that was not served before, if there is one, and some others.
func randomPhase(r *sample.Rand, j api.Junction, served map[int]bool) []int {
	n := len(j.Streams)
	first := r.Below(n)
	for len(served) < n && served[first] {
		first = (first + 1) % n
	}
	phase := []int{first}
	for range n {
		x := r.Below(n)
		if !slices.Contains(phase, x) && !slices.ContainsFunc(phase, func(y int) bool { return j.Clears[x][y] >= 0 }) {
			phase = append(phase, x)
		}
	}
	for _, s := range phase {
		served[s] = true
	}
	slices.Sort(phase)
	return phase
}

// TestCheck is for P6.1: junctions that are as defined, and others.
func TestCheck(t *testing.T) {
	for name, c := range map[string]struct {
		do   func(j *api.Junction)
		want api.Errno
	}{
		"as it is":                  {func(j *api.Junction) {}, api.OK},
		"nothing":                   {func(j *api.Junction) { *j = api.Junction{} }, api.ErrArg},
		"kind 0":                    {func(j *api.Junction) { j.Streams[0].Kind = 0 }, api.ErrArg},
		"kind 4":                    {func(j *api.Junction) { j.Streams[0].Kind = 4 }, api.ErrArg},
		"least 0":                   {func(j *api.Junction) { j.Streams[0].Least = 0 }, api.ErrArg},
		"least 120":                 {func(j *api.Junction) { j.Streams[0].Least, j.Longest[0] = 120, 120 }, api.OK},
		"least 121":                 {func(j *api.Junction) { j.Streams[0].Least, j.Longest[0] = 121, 121 }, api.ErrArg},
		"too few clears":            {func(j *api.Junction) { j.Clears = j.Clears[:2] }, api.ErrArg},
		"a short row":               {func(j *api.Junction) { j.Clears[1] = j.Clears[1][:2] }, api.ErrArg},
		"a long row":                {func(j *api.Junction) { j.Clears[1] = append(j.Clears[1], -1) }, api.ErrArg},
		"clear 60":                  {func(j *api.Junction) { j.Clears[0][1] = 60 }, api.OK},
		"clear 61":                  {func(j *api.Junction) { j.Clears[0][1] = 61 }, api.ErrArg},
		"clear -2":                  {func(j *api.Junction) { j.Clears[0][2], j.Clears[2][0] = -2, -2 }, api.ErrArg},
		"conflict on one side":      {func(j *api.Junction) { j.Clears[0][1] = -1 }, api.ErrArg},
		"conflict with itself":      {func(j *api.Junction) { j.Clears[1][1] = 0 }, api.ErrArg},
		"conflict in a phase":       {func(j *api.Junction) { j.Clears[0][2], j.Clears[2][0] = 0, 0 }, api.ErrArg},
		"no phases":                 {func(j *api.Junction) { j.Phases, j.Longest = nil, nil }, api.ErrArg},
		"an empty phase":            {func(j *api.Junction) { j.Phases, j.Longest = append(j.Phases, nil), append(j.Longest, 9) }, api.ErrArg},
		"a phase more":              {func(j *api.Junction) { j.Phases, j.Longest = append(j.Phases, []int{2}), append(j.Longest, 6) }, api.OK},
		"a stream twice":            {func(j *api.Junction) { j.Phases[1] = []int{1, 1} }, api.ErrArg},
		"not increasing":            {func(j *api.Junction) { j.Phases[0] = []int{2, 0} }, api.ErrArg},
		"a stream of nowhere":       {func(j *api.Junction) { j.Phases[1] = []int{1, 3} }, api.ErrArg},
		"a stream -1":               {func(j *api.Junction) { j.Phases[1] = []int{-1, 1} }, api.ErrArg},
		"a stream without a phase":  {func(j *api.Junction) { j.Phases[0] = []int{0} }, api.ErrArg},
		"12 phases":                 {func(j *api.Junction) { manyPhases(j, 12) }, api.OK},
		"13 phases":                 {func(j *api.Junction) { manyPhases(j, 13) }, api.ErrArg},
		"longest missing":           {func(j *api.Junction) { j.Longest = j.Longest[:1] }, api.ErrArg},
		"longest 600":               {func(j *api.Junction) { j.Longest[0] = 600 }, api.OK},
		"longest 601":               {func(j *api.Junction) { j.Longest[0] = 601 }, api.ErrArg},
		"longest is the least":      {func(j *api.Junction) { j.Longest[0] = 6 }, api.OK},
		"longest less than a least": {func(j *api.Junction) { j.Longest[0] = 5 }, api.ErrArg},
		"skips -1":                  {func(j *api.Junction) { j.Skips = -1 }, api.ErrArg},
		"skips 20":                  {func(j *api.Junction) { j.Skips = 20 }, api.OK},
		"skips 21":                  {func(j *api.Junction) { j.Skips = 21 }, api.ErrArg},
		"a gate":                    {func(j *api.Junction) { j.Gates = []api.Gate{{Move: api.Move{Rail: math.MinInt}}} }, api.OK},
		"a gate for walkers":        {func(j *api.Junction) { j.Gates = []api.Gate{{Stream: 2}} }, api.ErrArg},
		"a gate for the last":       {func(j *api.Junction) { j.Streams[2].Kind, j.Gates = api.StreamCar, []api.Gate{{Stream: 2}} }, api.OK},
		"a gate of no stream":       {func(j *api.Junction) { j.Gates = []api.Gate{{Stream: 3}} }, api.ErrArg},
		"a gate of stream -1":       {func(j *api.Junction) { j.Gates = []api.Gate{{Stream: -1}} }, api.ErrArg},
		"a move twice":              {func(j *api.Junction) { j.Gates = []api.Gate{{}, {}} }, api.ErrArg},
		"both directions":           {func(j *api.Junction) { j.Gates = []api.Gate{{}, {Move: api.Move{Back: true}}} }, api.OK},
		"20 gates":                  {func(j *api.Junction) { manyGates(j, 20) }, api.OK},
		"21 gates":                  {func(j *api.Junction) { manyGates(j, 21) }, api.ErrArg},
		"20 streams":                {func(j *api.Junction) { manyStreams(j, 20) }, api.OK},
		"21 streams":                {func(j *api.Junction) { manyStreams(j, 21) }, api.ErrArg},
	} {
		j := example()
		c.do(&j)
		s, e1 := street.Open(j)
		n, e2 := street.Bound(j)
		if e := street.Check(j); e != c.want || e1 != e || e2 != e || (s == nil) != (e != api.OK) || (n == 0) != (e != api.OK) {
			t.Error(name, e, e1, e2)
		}
		if c.want == api.OK {
			continue
		}
		tour, length, e3 := street.Tour(j, []int{0, 1})
		p, e4 := street.Spread(j, []int{0, 1})
		if e3 != api.ErrArg || e4 != api.ErrArg || len(tour) > 0 || length != 0 || p.Cycle != 0 || street.Right(j, api.Program{Cycle: 24, Begins: []int{12, 0, 10}, Lasts: []int{5, 8, 6}}) {
			t.Error(name, e3, e4)
		}
	}
}

func manyPhases(j *api.Junction, n int) {
	for len(j.Phases) < n {
		j.Phases, j.Longest = append(j.Phases, []int{1}), append(j.Longest, 10)
	}
}

func manyGates(j *api.Junction, n int) {
	for i := range n {
		j.Gates = append(j.Gates, api.Gate{Move: api.Move{Rail: i}})
	}
}

func manyStreams(j *api.Junction, n int) {
	*j = api.Junction{Longest: []int{9}, Phases: make([][]int, 1)}
	for i := range n {
		j.Streams = append(j.Streams, api.Stream{Kind: api.StreamWalk, Least: 9})
		j.Clears = append(j.Clears, slices.Repeat([]int{-1}, n))
		j.Phases[0] = append(j.Phases[0], i)
	}
}

// TestBound is for P6.1.
func TestBound(t *testing.T) {
	j := example()
	if n, e := street.Bound(j); n != 185 || e != api.OK {
		t.Error(n, e)
	}
	manyStreams(&j, 3) // without conflicts the clearing time is 0
	if n, e := street.Bound(j); n != 2*9 || e != api.OK {
		t.Error(n, e)
	}
}

// green returns whether a stream has green in a second of a program.
func green(p api.Program, stream, second int) bool {
	return ((second-p.Begins[stream])%p.Cycle+p.Cycle)%p.Cycle < p.Lasts[stream]
}

// right says whether a program is right, by looking at each second of the cycle.
func right(j api.Junction, p api.Program) bool {
	for a := range j.Streams {
		if p.Lasts[a] < j.Streams[a].Least {
			return false
		}
		for b := range j.Streams {
			if j.Clears[a][b] < 0 {
				continue
			}
			for second := range p.Cycle {
				if green(p, a, second) && green(p, b, second) {
					return false
				}
				// The green of a ended just before this second: b must not begin for some time.
				if !green(p, a, second-1) || green(p, a, second) {
					continue
				}
				for wait := range j.Clears[a][b] {
					if green(p, b, second+wait) {
						return false
					}
				}
			}
		}
	}
	return true
}

// TestRight is for P6.1: programs against their seconds, and those that are not as defined.
func TestRight(t *testing.T) {
	j := example()
	good := func() api.Program {
		return api.Program{Cycle: 24, Begins: []int{12, 0, 10}, Lasts: []int{5, 8, 6}}
	}
	for name, c := range map[string]struct {
		do   func(p *api.Program)
		want bool
	}{
		"as it is":             {func(p *api.Program) {}, true},
		"shorter":              {func(p *api.Program) { p.Cycle = 22 }, false},
		"no cycle":             {func(p *api.Program) { p.Cycle = 0 }, false},
		"a long cycle":         {func(p *api.Program) { p.Cycle = 2000 }, true},
		"too long":             {func(p *api.Program) { p.Cycle = 2001 }, false},
		"begins missing":       {func(p *api.Program) { p.Begins = p.Begins[:2] }, false},
		"lasts missing":        {func(p *api.Program) { p.Lasts = p.Lasts[:2] }, false},
		"lasts more":           {func(p *api.Program) { p.Lasts = append(p.Lasts, 9) }, false},
		"begins late":          {func(p *api.Program) { p.Begins[0] = 24 }, false},
		"begins a cycle later": {func(p *api.Program) { p.Begins[1] = 24 }, false},
		"begins early":         {func(p *api.Program) { p.Begins[0] = -12 }, false},
		"less than least":      {func(p *api.Program) { p.Lasts[0] = 4 }, false},
		"lasts 0":              {func(p *api.Program) { p.Lasts[0] = 0 }, false},
		"longer than all":      {func(p *api.Program) { p.Lasts[0] = 25 }, false},
		"always green":         {func(p *api.Program) { p.Begins[0], p.Lasts[0] = 0, 24 }, false},
		"huge":                 {func(p *api.Program) { p.Begins[0], p.Lasts[0] = math.MaxInt, math.MaxInt }, false},
		"a second earlier":     {func(p *api.Program) { p.Begins[2] = 9 }, false},
		"a second later":       {func(p *api.Program) { p.Begins[2] = 11 }, true},
		"2 seconds later":      {func(p *api.Program) { p.Begins[2] = 12 }, false}, // walkers need 7 seconds before traffic begins
	} {
		p := good()
		c.do(&p)
		if is := street.Right(j, p); is != c.want {
			t.Error(name, is)
		}
	}
	walk := api.Junction{Streams: []api.Stream{{Kind: api.StreamWalk, Least: 3}}, Clears: [][]int{{-1}}, Phases: [][]int{{0}}, Longest: []int{3}}
	if !street.Right(walk, api.Program{Cycle: 5, Begins: []int{0}, Lasts: []int{5}}) || street.Right(walk, api.Program{Cycle: 5, Begins: []int{1}, Lasts: []int{5}}) {
		t.Error("a stream that is always green begins at 0")
	}
	walk.Streams[0].Least = 1
	if !street.Right(walk, api.Program{Cycle: 1, Begins: []int{0}, Lasts: []int{1}}) {
		t.Error("a cycle of a second")
	}
	seen := map[bool]int{}
	for seed := range 20000 {
		r := sample.New(seed)
		j := random(r)
		if len(j.Streams) > 4 {
			continue
		}
		p := api.Program{Cycle: r.From(2, 50)}
		for range j.Streams {
			p.Begins = append(p.Begins, r.Below(p.Cycle))
			p.Lasts = append(p.Lasts, r.From(1, p.Cycle-1))
		}
		is := street.Right(j, p)
		if is != right(j, p) {
			t.Fatal(seed, j, p, is)
		}
		seen[is]++
	}
	if seen[true] < 50 || seen[false] < 50 {
		t.Error("the samples are too simple:", seen)
	}
}

// lengthOf returns the length of a tour.
func lengthOf(j api.Junction, tour []int) int {
	sum := 0
	for i, s := range tour {
		sum += j.Streams[s].Least + j.Clears[s][tour[(i+1)%len(tour)]]
	}
	return sum
}

// conflicting returns a junction of n streams that all conflict.
func conflicting(r *sample.Rand, n, most int) api.Junction {
	j := api.Junction{Skips: 1}
	for a := range n {
		j.Streams = append(j.Streams, api.Stream{Kind: api.StreamCar, Least: r.From(1, 9)})
		j.Phases, j.Longest = append(j.Phases, []int{a}), append(j.Longest, 9)
		j.Clears = append(j.Clears, make([]int, n))
		for b := range n {
			j.Clears[a][b] = r.From(0, most)
		}
		j.Clears[a][a] = -1
	}
	return j
}

// permutations calls a function for each order of a list, in lexicographic order.
func permutations(l []int, do func([]int)) {
	var extend func(done, left []int)
	extend = func(done, left []int) {
		if len(left) == 0 {
			do(done)
		}
		for i, x := range left {
			rest := slices.Delete(slices.Clone(left), i, i+1)
			extend(append(slices.Clone(done), x), rest)
		}
	}
	extend(nil, l)
}

// TestTour is for P6.2: shortest tours against all of them.
func TestTour(t *testing.T) {
	j := example()
	if l, n, e := street.Tour(j, []int{0, 1}); !slices.Equal(l, []int{0, 1}) || n != 20 || e != api.OK {
		t.Error(l, n, e)
	}
	if l, n, e := street.Tour(j, []int{1, 2}); !slices.Equal(l, []int{1, 2}) || n != 23 || e != api.OK {
		t.Error(l, n, e)
	}
	for seed := range 150 {
		r := sample.New(seed)
		n := r.From(2, 7)
		j := conflicting(r, n, 1+seed%20)
		var streams []int
		for s := range n {
			if r.Often(80) || n == 2 {
				streams = append(streams, s)
			}
		}
		if len(streams) < 2 {
			continue
		}
		var best []int
		permutations(streams[1:], func(rest []int) {
			if tour := append([]int{streams[0]}, rest...); best == nil || lengthOf(j, tour) < lengthOf(j, best) {
				best = tour
			}
		})
		before := slices.Clone(streams)
		l, length, e := street.Tour(j, streams)
		if e != api.OK || !slices.Equal(l, best) || length != lengthOf(j, best) || !slices.Equal(streams, before) {
			t.Fatal(seed, l, length, best, e)
		}
	}
	nine := conflicting(sample.New(1), 10, 60)
	if l, _, e := street.Tour(nine, []int{0, 1, 2, 3, 4, 5, 6, 7, 9}); len(l) != 9 || e != api.OK {
		t.Error(l, e)
	}
	for _, streams := range [][]int{nil, {0}, {0, 0}, {1, 0}, {0, 10}, {-1, 0}, {0, 1, 2, 3, 4, 5, 6, 7, 8, 9}, {math.MinInt, math.MaxInt}} {
		if l, n, e := street.Tour(nine, streams); len(l) > 0 || n != 0 || e != api.ErrArg {
			t.Error(streams, l, n, e)
		}
		if p, e := street.Spread(nine, streams); p.Cycle != 0 || e != api.ErrArg {
			t.Error(streams, p, e)
		}
	}
	if l, n, e := street.Tour(j, []int{0, 2}); len(l) > 0 || n != 0 || e != api.ErrArg {
		t.Error(l, n, e)
	}
	for _, tour := range [][]int{{0, 2}, {1, 0}, {0, 1, 2}, {0, 1, 0}, {0, 1, 1}} {
		if p, e := street.Spread(j, tour); p.Cycle != 0 || e != api.ErrArg {
			t.Error(tour, p, e)
		}
	}
}

// alone returns the junction that has some streams alone.
func alone(j api.Junction, streams []int) api.Junction {
	var k api.Junction
	for i, a := range streams {
		k.Streams = append(k.Streams, j.Streams[a])
		k.Phases, k.Longest = append(k.Phases, []int{i}), append(k.Longest, 120)
		var row []int
		for _, b := range streams {
			row = append(row, j.Clears[a][b])
		}
		k.Clears = append(k.Clears, row)
	}
	return k
}

// TestSpread is for P6.2: the program of a tour, which is right; and no right program has a shorter cycle.
func TestSpread(t *testing.T) {
	p, e := street.Spread(example(), []int{1, 2})
	if e != api.OK || p.Cycle != 23 || !slices.Equal(p.Begins, []int{0, 10}) || !slices.Equal(p.Lasts, []int{8, 6}) {
		t.Error(p, e)
	}
	for seed := range 200 {
		r := sample.New(seed)
		n := r.From(2, 6)
		j := conflicting(r, n, 1) // such clearing times cannot be evaded by a way round
		tour := []int{0}
		for len(tour) < n {
			if x := r.Below(n); !slices.Contains(tour, x) {
				tour = append(tour, x)
			}
		}
		p, e := street.Spread(j, tour)
		if e != api.OK || p.Cycle != lengthOf(j, tour) || !street.Right(alone(j, slices.Sorted(slices.Values(tour))), p) {
			t.Fatal(seed, tour, p, e)
		}
		now := 0
		for i, s := range tour {
			if p.Begins[s] != now || p.Lasts[s] != j.Streams[s].Least {
				t.Fatal(seed, tour, p)
			}
			now += p.Lasts[s] + j.Clears[s][tour[(i+1)%n]]
		}
	}
	for seed := range 30000 {
		r := sample.New(seed)
		j := conflicting(r, r.From(2, 3), 4)
		p := api.Program{Cycle: r.From(2, 40)}
		var all []int
		for i := range j.Streams {
			all = append(all, i)
			p.Begins = append(p.Begins, r.Below(p.Cycle))
			p.Lasts = append(p.Lasts, r.From(1, p.Cycle-1))
		}
		if _, n, e := street.Tour(j, all); e != api.OK || street.Right(j, p) && p.Cycle < n {
			t.Fatal(seed, j, p, n, e)
		}
	}
}
