package depot_test

import (
	"cmp"
	"math"
	"slices"
	"testing"

	"tramline/api"
	"tramline/depot"
	"tramline/duty"
	"tramline/sample"
)

// night is the arguments of a night.
type night struct {
	tracks []api.StableTrack
	cars   []api.StableCar
	leaves []api.StableLeave
}

// example returns a night of cars that are 10 long, on dead ends of 30.
func example(tracks int, kinds, wanted []int) night {
	var n night
	for range tracks {
		n.tracks = append(n.tracks, api.StableTrack{Length: 30})
	}
	for i, kind := range kinds {
		n.cars = append(n.cars, api.StableCar{Kind: kind, Length: 10, Come: i + 1, Due: 1000})
		n.leaves = append(n.leaves, api.StableLeave{Kind: wanted[i], Leave: 10 * (i + 1)})
	}
	return n
}

func random(r *sample.Rand, cars, tracks int) night {
	var n night
	for range tracks {
		n.tracks = append(n.tracks, api.StableTrack{Length: r.From(0, 40), Through: r.Often(50)})
	}
	kinds := r.From(1, cars+1)
	come, leave := 0, 50
	for range cars {
		come += r.From(0, 8)
		leave += r.From(0, 9)
		kind := r.From(1, kinds)
		due := api.DutyTime
		if r.Often(30) {
			due = leave + r.From(0, 20)
		}
		n.cars = append(n.cars, api.StableCar{Kind: kind, Length: r.From(1, 15), Come: come, Due: due})
		n.leaves = append(n.leaves, api.StableLeave{Kind: kind, Leave: leave})
	}
	for i := range n.leaves { // other kinds leave first
		k := r.Below(cars)
		n.leaves[i].Kind, n.leaves[k].Kind = n.leaves[k].Kind, n.leaves[i].Kind
	}
	return n
}

// check returns the moves of shunting of a plan, and whether it is one, as the document defines it.
func (n night) check(tracks, leaves []int) (int, bool) {
	moves := 0
	for i, c := range n.cars {
		l := n.leaves[leaves[i]]
		if l.Kind != c.Kind || c.Come > l.Leave || l.Leave > c.Due || n.cars[len(n.cars)-1].Come > n.leaves[0].Leave {
			return 0, false
		}
		sum := 0
		for j := range n.cars {
			if tracks[j] != tracks[i] {
				continue
			}
			sum += n.cars[j].Length
			if i < j && (leaves[i] < leaves[j]) != n.tracks[tracks[i]].Through {
				moves++
			}
		}
		if sum > n.tracks[tracks[i]].Length {
			return 0, false
		}
	}
	return moves, true
}

// best tries all plans.
func (n night) best() (api.StablePlan, bool) {
	var best api.StablePlan
	found := false
	all := 1
	for range n.cars {
		all *= len(n.tracks)
	}
	for number := range all {
		tracks := make([]int, len(n.cars))
		for i, left := len(tracks)-1, number; i >= 0; i-- {
			tracks[i], left = left%len(n.tracks), left/len(n.tracks)
		}
		permutations(ints(len(n.cars)), func(leaves []int) {
			moves, ok := n.check(tracks, leaves)
			if ok && (!found || cmp.Or(moves-best.Moves, slices.Compare(tracks, best.Tracks), slices.Compare(leaves, best.Leaves)) < 0) {
				best, found = api.StablePlan{Tracks: slices.Clone(tracks), Leaves: slices.Clone(leaves), Moves: moves}, true
			}
		})
	}
	return best, found
}

func samePlan(a, b api.StablePlan) bool {
	return slices.Equal(a.Tracks, b.Tracks) && slices.Equal(a.Leaves, b.Leaves) && a.Moves == b.Moves
}

// TestNightExamples is for P9.2 and P9.3.
func TestNightExamples(t *testing.T) {
	for _, c := range []struct {
		n    night
		want api.StablePlan
	}{
		{example(1, []int{1, 1, 1}, []int{1, 1, 1}), api.StablePlan{Tracks: []int{0, 0, 0}, Leaves: []int{2, 1, 0}}},
		{example(1, []int{1, 2, 1}, []int{1, 1, 2}), api.StablePlan{Tracks: []int{0, 0, 0}, Leaves: []int{1, 2, 0}, Moves: 1}},
		{example(2, []int{1, 2, 1}, []int{1, 1, 2}), api.StablePlan{Tracks: []int{0, 1, 0}, Leaves: []int{1, 2, 0}}},
		{night{tracks: make([]api.StableTrack, 1)}, api.StablePlan{}},
	} {
		if p, e := depot.Night(c.n.tracks, c.n.cars, c.n.leaves); e != api.OK || !samePlan(p, c.want) {
			t.Error(c, p, e)
		}
	}
	n := example(1, []int{1, 2, 1}, []int{1, 1, 2})
	in, aside, out := api.StableIn, api.StableAside, api.StableOut
	want := []api.StableMove{{Kind: in}, {Kind: in, Car: 1}, {Kind: in, Car: 2}, {Kind: out, Car: 2}, {Kind: aside, Car: 1}, {Kind: out}, {Kind: out, Car: 1}}
	if l, e := depot.Play(n.tracks, n.cars, n.leaves, api.StablePlan{Tracks: []int{0, 0, 0}, Leaves: []int{1, 2, 0}}); e != api.OK || !slices.Equal(l, want) {
		t.Error(l, e)
	}
}

// TestNight is for P9.2: the best plan against all plans.
func TestNight(t *testing.T) {
	seen := map[int]int{}
	for seed := range 400 {
		r := sample.New(seed)
		n := random(r, r.From(1, 5), r.From(1, 3))
		want, found := n.best()
		p, e := depot.Night(n.tracks, n.cars, n.leaves)
		if found != (e == api.OK) || !found && e != api.ErrNone || !samePlan(p, want) {
			t.Fatal(seed, n, p, want, e)
		}
		if !found {
			seen[-1]++
			continue
		}
		seen[p.Moves]++
		if moves, ok := depot.Moves(n.tracks, n.cars, n.leaves, p); !ok || moves != p.Moves {
			t.Fatal(seed, p, moves, ok)
		}
	}
	if seen[-1] < 20 || seen[0] < 20 || seen[1] < 5 || seen[2] == 0 {
		t.Error("the samples are too simple:", seen)
	}
}

// TestGreatNight is for P9.2: as many cars and tracks as there can be.
func TestGreatNight(t *testing.T) {
	seen := map[bool]int{}
	for seed := range 60 {
		r := sample.New(seed)
		n := random(r, 9, r.From(2, 5))
		for i := range n.tracks {
			n.tracks[i].Length += 25
		}
		for i := range n.cars {
			n.cars[i].Come, n.cars[i].Due = i, api.DutyTime
		}
		p, e := depot.Night(n.tracks, n.cars, n.leaves)
		if e == api.ErrNone {
			continue
		}
		seen[p.Moves > 0]++
		moves, ok := depot.Moves(n.tracks, n.cars, n.leaves, p)
		if e != api.OK || !ok || moves != p.Moves {
			t.Fatal(seed, p, moves, ok, e)
		}
		// Nobody finds less by exchanging cars, or moving one.
		for i := range n.cars {
			for k := range n.cars {
				tracks, leaves := slices.Clone(p.Tracks), slices.Clone(p.Leaves)
				leaves[i], leaves[k] = leaves[k], leaves[i]
				if moves, ok := depot.Moves(n.tracks, n.cars, n.leaves, api.StablePlan{Tracks: tracks, Leaves: leaves}); ok && moves < p.Moves {
					t.Fatal(seed, p, leaves, moves)
				}
				tracks[i], tracks[k] = tracks[k], tracks[i]
				if moves, ok := depot.Moves(n.tracks, n.cars, n.leaves, api.StablePlan{Tracks: tracks, Leaves: leaves}); ok && moves < p.Moves {
					t.Fatal(seed, p, tracks, leaves, moves)
				}
			}
		}
	}
	if seen[false] < 10 || seen[true] < 3 {
		t.Error("the samples are too simple:", seen)
	}
}

// TestNightArguments is for P9.2 and P9.3: nights that are not as defined.
func TestNightArguments(t *testing.T) {
	for name, c := range map[string]struct {
		do   func(n *night)
		want api.Errno
	}{
		"as it is":            {func(n *night) {}, api.OK},
		"no tracks":           {func(n *night) { n.tracks = nil }, api.ErrArg},
		"5 tracks":            {func(n *night) { n.tracks = slices.Repeat(n.tracks, 5) }, api.OK},
		"6 tracks":            {func(n *night) { n.tracks = slices.Repeat(n.tracks, 6) }, api.ErrArg},
		"track of -1":         {func(n *night) { n.tracks[0].Length = -1 }, api.ErrArg},
		"track of the most":   {func(n *night) { n.tracks[0].Length = 10000000 }, api.OK},
		"track of more":       {func(n *night) { n.tracks[0].Length = 10000001 }, api.ErrArg},
		"track of 0":          {func(n *night) { n.tracks[0].Length = 0 }, api.ErrNone},
		"track that is short": {func(n *night) { n.tracks[0].Length = 29 }, api.ErrNone},
		"kind -1":             {func(n *night) { n.cars[0].Kind = -1 }, api.ErrArg},
		"kind 101":            {func(n *night) { n.cars[0].Kind = 101 }, api.ErrArg},
		"kind 0":              {func(n *night) { n.cars[0].Kind, n.leaves[2].Kind = 0, 0 }, api.OK},
		"kind of no leave":    {func(n *night) { n.cars[0].Kind = 100 }, api.ErrNone},
		"length 0":            {func(n *night) { n.cars[0].Length = 0 }, api.ErrArg},
		"length of more":      {func(n *night) { n.cars[0].Length = 10000001 }, api.ErrArg},
		"length of the most":  {func(n *night) { n.cars[0].Length = 10000000 }, api.ErrNone},
		"come -1":             {func(n *night) { n.cars[0].Come = -1 }, api.ErrArg},
		"come out of order":   {func(n *night) { n.cars[0].Come = 3 }, api.ErrArg},
		"come at the leave":   {func(n *night) { n.cars[2].Come = 10 }, api.OK},
		"come and leave":      {func(n *night) { *n = example(1, []int{1}, []int{1}); n.cars[0].Come = 10 }, api.OK},
		"come after a leave":  {func(n *night) { n.cars[2].Come = 11 }, api.ErrNone},
		"come too late":       {func(n *night) { n.cars[2].Come = 200001 }, api.ErrArg},
		"due -1":              {func(n *night) { n.cars[2].Due = -1 }, api.ErrArg},
		"due too late":        {func(n *night) { n.cars[2].Due = 200001 }, api.ErrArg},
		"due at a leave":      {func(n *night) { n.cars[0].Due = 10 }, api.OK},
		"due before all":      {func(n *night) { n.cars[0].Due = 9 }, api.ErrNone},
		"two due at once":     {func(n *night) { n.cars[0].Due, n.cars[1].Due = 19, 19 }, api.ErrNone},
		"leave kind 101":      {func(n *night) { n.leaves[0].Kind = 101 }, api.ErrArg},
		"leave kind -1":       {func(n *night) { n.leaves[0].Kind = -1 }, api.ErrArg},
		"leave -1":            {func(n *night) { n.leaves[0].Leave = -1 }, api.ErrArg},
		"leave too late":      {func(n *night) { n.leaves[2].Leave = 200001 }, api.ErrArg},
		"leave out of order":  {func(n *night) { n.leaves[0].Leave = 21 }, api.ErrArg},
		"a leave missing":     {func(n *night) { n.leaves = n.leaves[:2] }, api.ErrArg},
		"a car missing":       {func(n *night) { n.cars = n.cars[:2] }, api.ErrArg},
		"9 cars":              {func(n *night) { *n = example(3, make([]int, 9), make([]int, 9)) }, api.OK},
		"10 cars":             {func(n *night) { *n = example(5, make([]int, 10), make([]int, 10)) }, api.ErrArg},
	} {
		n := example(1, []int{1, 1, 1}, []int{1, 1, 1})
		c.do(&n)
		p, e := depot.Night(n.tracks, n.cars, n.leaves)
		if e != c.want || e != api.OK && !samePlan(p, api.StablePlan{}) {
			t.Error(name, p, e)
		}
		if e == api.OK {
			continue
		}
		p = api.StablePlan{Tracks: []int{0, 0, 0}, Leaves: []int{2, 1, 0}}
		l, e := depot.Play(n.tracks, n.cars, n.leaves, p)
		if moves, ok := depot.Moves(n.tracks, n.cars, n.leaves, p); ok || moves != 0 || e != api.ErrArg || len(l) > 0 {
			t.Error(name, moves, ok, l, e)
		}
	}
}

// TestPlans is for P9.2 and P9.3: plans of a night, and others; what is played.
func TestPlans(t *testing.T) {
	seen := map[bool]int{}
	for seed := range 3000 {
		r := sample.New(seed)
		n := random(r, r.From(1, 4), r.From(1, 3))
		leaves := shuffled(r, len(n.cars))
		var tracks []int
		for range n.cars {
			tracks = append(tracks, r.Below(len(n.tracks)))
		}
		p := api.StablePlan{Tracks: tracks, Leaves: leaves, Moves: r.From(-5, 5)}
		want, is := n.check(tracks, leaves)
		moves, ok := depot.Moves(n.tracks, n.cars, n.leaves, p)
		if ok != is || moves != want {
			t.Fatal(seed, n, p, moves, ok)
		}
		seen[is]++
		l, e := depot.Play(n.tracks, n.cars, n.leaves, p)
		if is != (e == api.OK) || !is && (e != api.ErrArg || len(l) > 0) {
			t.Fatal(seed, p, l, e)
		}
		if is {
			n.play(t, seed, p, l, moves)
		}
	}
	if seen[true] < 100 || seen[false] < 100 {
		t.Error("the samples are too simple:", seen)
	}
	n := example(2, []int{1, 1}, []int{1, 1})
	for _, p := range []api.StablePlan{
		{Tracks: []int{0}, Leaves: []int{0, 1}}, {Tracks: []int{0, 0, 0}, Leaves: []int{0, 1}}, {Tracks: []int{0, 0}, Leaves: []int{0}}, {Tracks: []int{0, 0}, Leaves: []int{0, 1, 2}}, {Tracks: []int{0, 2}, Leaves: []int{0, 1}}, {Tracks: []int{0, -1}, Leaves: []int{0, 1}},
		{Tracks: []int{0, 0}, Leaves: []int{0, 0}}, {Tracks: []int{0, 0}, Leaves: []int{0, 2}}, {Tracks: []int{0, 0}, Leaves: []int{-1, 0}}, {Tracks: []int{math.MaxInt, math.MinInt}, Leaves: []int{math.MaxInt, math.MinInt}}, {},
	} {
		if moves, ok := depot.Moves(n.tracks, n.cars, n.leaves, p); ok || moves != 0 {
			t.Error(p, moves, ok)
		}
		if l, e := depot.Play(n.tracks, n.cars, n.leaves, p); len(l) > 0 || e != api.ErrArg {
			t.Error(p, l, e)
		}
	}
}

// play checks moves by pushing cars around: whoever goes out or aside stands at the end of its track.
func (n night) play(t *testing.T, seed int, p api.StablePlan, l []api.StableMove, moves int) {
	t.Helper()
	standing := make([][]int, len(n.tracks)) // in the order in which they came
	asides := 0
	next := 0
	for next < len(n.cars) {
		if m := l[next]; m != (api.StableMove{Kind: api.StableIn, Car: next, Track: p.Tracks[next]}) {
			t.Fatal(seed, l)
		}
		standing[p.Tracks[next]] = append(standing[p.Tracks[next]], next)
		next++
	}
	for departure := range n.leaves {
		car := slices.Index(p.Leaves, departure)
		track := p.Tracks[car]
		now := slices.Clone(standing[track])
		end := func() int {
			if n.tracks[track].Through {
				return 0
			}
			return len(now) - 1
		}
		for ; now[end()] != car; next++ {
			if l[next] != (api.StableMove{Kind: api.StableAside, Car: now[end()], Track: track}) {
				t.Fatal(seed, l, next)
			}
			now = slices.Delete(now, end(), end()+1)
			asides++
		}
		if l[next] != (api.StableMove{Kind: api.StableOut, Car: car, Track: track}) {
			t.Fatal(seed, l, next)
		}
		next++
		standing[track] = slices.DeleteFunc(standing[track], func(c int) bool { return c == car })
	}
	if next != len(l) || asides != moves {
		t.Fatal(seed, l, asides, moves)
	}
}

// TestNightConsequences is for P9.6: more tracks and longer ones never make it worse; some nights need no shunting.
func TestNightConsequences(t *testing.T) {
	for seed := range 200 {
		r := sample.New(seed)
		n := random(r, r.From(1, 6), r.From(1, 3))
		p, e := depot.Night(n.tracks, n.cars, n.leaves)
		better := append(slices.Clone(n.tracks), api.StableTrack{Length: r.From(0, 30)})
		for i := range better {
			better[i].Length += r.From(0, 10)
		}
		q, e1 := depot.Night(better, n.cars, n.leaves)
		if e == api.OK && (e1 != api.OK || q.Moves > p.Moves) {
			t.Fatal(seed, p, q, e, e1)
		}
		for i := range n.tracks {
			n.tracks[i] = api.StableTrack{Length: 200, Through: true}
		}
		for i := range n.cars {
			n.cars[i].Kind, n.leaves[i].Kind, n.cars[i].Due = 1, 1, api.DutyTime
			n.leaves[i].Leave += 100
		}
		if p, e := depot.Night(n.tracks, n.cars, n.leaves); e != api.OK || p.Moves != 0 {
			t.Fatal(seed, n, p, e)
		}
	}
}

// TestTracks is for P9.4.
func TestTracks(t *testing.T) {
	p := sample.Example()
	if l, e := depot.Tracks(p, []int{2, 0}); e != api.OK || !slices.Equal(l, []api.StableTrack{{Length: 1240}, {Length: 1000}}) {
		t.Error(l, e)
	}
	ring := api.Plan{Nodes: []api.Node{{Kind: api.NodePlain, Ends: []api.RailEnd{{}, {Last: true}}}}, Rails: []api.Rail{{Shape: []api.Spot{{X: 500}, {X: 500, Y: 500}}, Limit: 1}}}
	if l, e := depot.Tracks(ring, []int{0}); e != api.OK || !slices.Equal(l, []api.StableTrack{{Length: 1707, Through: true}}) {
		t.Error(l, e)
	}
	if l, e := depot.Tracks(sample.Street(), []int{0}); e != api.OK || !slices.Equal(l, []api.StableTrack{{Length: 10000000}}) { // it is longer
		t.Error(l, e)
	}
	for _, rails := range [][]int{nil, {0, 0}, {3}, {-1}, {0, 1, 2, 0}, {math.MaxInt}} {
		if l, e := depot.Tracks(p, rails); len(l) > 0 || e != api.ErrArg {
			t.Error(rails, l, e)
		}
	}
	var lines [][]api.Spot
	for i := range 6 {
		lines = append(lines, []api.Spot{{Y: i}, {X: 5, Y: i}})
	}
	for n, want := range map[int]api.Errno{5: api.OK, 6: api.ErrArg} {
		if l, e := depot.Tracks(sample.Lines(lines...), ints(n)); e != want {
			t.Error(n, l, e)
		}
	}
	p.Rails[1].Limit = 0
	if l, e := depot.Tracks(p, []int{0}); len(l) > 0 || e != api.ErrArg {
		t.Error(l, e)
	}
}

// TestHome is for P9.4: the night of a plan of cars, with equal times.
func TestHome(t *testing.T) {
	tasks := []api.Task{{Depart: 0, Arrive: 90}, {Depart: 10, Arrive: 50}, {Depart: 10, Arrive: 90}, {Depart: 60, Arrive: 80}}
	y := api.Yard{Dead: [][]int{{0}}, Relief: []bool{true}}
	cars, kinds, lengths := [][]int{{0}, {1, 3}, {2}}, []int{5, 6, 7}, []int{10, 20, 30}
	come, leave, coming, going, e := depot.Home(tasks, y, cars, kinds, lengths, 1000)
	if e != api.OK || !slices.Equal(coming, []int{1, 0, 2}) || !slices.Equal(going, []int{0, 1, 2}) {
		t.Error(coming, going, e)
	}
	if !slices.Equal(come, []api.StableCar{{Kind: 6, Length: 20, Come: 80, Due: 200000}, {Kind: 5, Length: 10, Come: 90, Due: 200000}, {Kind: 7, Length: 30, Come: 90, Due: 200000}}) {
		t.Error(come)
	}
	if !slices.Equal(leave, []api.StableLeave{{Kind: 5, Leave: 1000}, {Kind: 6, Leave: 1010}, {Kind: 7, Leave: 1010}}) {
		t.Error(leave)
	}
	if p, e := depot.Night([]api.StableTrack{{Length: 100}}, come, leave); e != api.OK || p.Moves != 2 { // 5 is behind 7, and 6 behind both
		t.Error(p, e)
	}
	for name, c := range map[string]struct {
		cars           [][]int
		kinds, lengths []int
		day            int
		want           api.Errno
	}{
		"as it is":         {cars, kinds, lengths, 0, api.OK},
		"no plan":          {[][]int{{0}, {1, 3}}, kinds[:2], lengths[:2], 0, api.ErrArg},
		"out of order":     {[][]int{{1, 3}, {0}, {2}}, kinds, lengths, 0, api.ErrArg},
		"cannot follow":    {[][]int{{0, 3}, {1}, {2}}, kinds, lengths, 0, api.ErrArg},
		"too few kinds":    {cars, kinds[:2], lengths, 0, api.ErrArg},
		"too many kinds":   {cars, append(kinds, 1), lengths, 0, api.ErrArg},
		"too few lengths":  {cars, kinds, lengths[:2], 0, api.ErrArg},
		"too many lengths": {cars, kinds, append(lengths, 1), 0, api.ErrArg},
		"kind 101":         {cars, []int{101, 0, 0}, lengths, 0, api.ErrArg},
		"kind -1":          {cars, []int{0, 0, -1}, lengths, 0, api.ErrArg},
		"kind 100":         {cars, []int{100, 0, 0}, lengths, 0, api.OK},
		"length 0":         {cars, kinds, []int{1, 0, 1}, 0, api.ErrArg},
		"length of more":   {cars, kinds, []int{1, 1, 10000001}, 0, api.ErrArg},
		"day -1":           {cars, kinds, lengths, -1, api.ErrArg},
		"day too long":     {cars, kinds, lengths, 200001, api.ErrArg},
		"leaves at last":   {cars, kinds, lengths, 199990, api.OK},
		"leaves too late":  {cars, kinds, lengths, 199991, api.ErrNone},
		"no cars":          {nil, nil, nil, 0, api.ErrArg},
	} {
		a, b, x, z, e := depot.Home(tasks, y, c.cars, c.kinds, c.lengths, c.day)
		if e != c.want || e != api.OK && len(a)+len(b)+len(x)+len(z) > 0 {
			t.Error(name, a, b, x, z, e)
		}
	}
	if a, b, x, z, e := depot.Home(nil, y, nil, nil, nil, 0); e != api.OK || len(a)+len(b)+len(x)+len(z) > 0 {
		t.Error(a, b, x, z, e)
	}
	if _, _, _, _, e := depot.Home(tasks[:1], y, [][]int{{0}}, kinds[:1], lengths[:1], 200000); e != api.OK {
		t.Error(e)
	}
	if _, _, _, _, e := depot.Home(tasks[1:2], y, [][]int{{0}}, kinds[:1], lengths[:1], 200000); e != api.ErrNone {
		t.Error(e)
	}
	for n, want := range map[int]api.Errno{9: api.OK, 10: api.ErrNone} {
		many, _, _ := duty.Cars(slices.Repeat(tasks[:1], n), y)
		if _, _, _, _, e := depot.Home(slices.Repeat(tasks[:1], n), y, many, make([]int, n), slices.Repeat([]int{1}, n), 5); e != want || len(many) != n {
			t.Error(n, many, e)
		}
	}
}
