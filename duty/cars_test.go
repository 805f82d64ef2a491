package duty_test

import (
	"math"
	"reflect"
	"slices"
	"testing"

	"tramline/api"
	"tramline/duty"
	"tramline/sample"
)

// example returns the tasks and the yard of the chapter.
func example() ([]api.Task, api.Yard) {
	tasks := []api.Task{{From: 0, To: 1, Depart: 0, Arrive: 50}, {From: 0, To: 1, Depart: 20, Arrive: 80}, {From: 1, To: 0, Depart: 60, Arrive: 120}, {From: 1, To: 0, Depart: 100, Arrive: 150}, {From: 0, To: 1, Depart: 260, Arrive: 300}}
	return tasks, api.Yard{Dead: [][]int{{0, 100}, {100, 0}}, Turn: 10, Relief: []bool{true, false}}
}

// random returns tasks and a yard that look random.
func random(r *sample.Rand, n int) ([]api.Task, api.Yard) {
	places := r.From(1, 4)
	y := api.Yard{Turn: r.From(0, 30)}
	for i := range places {
		y.Relief = append(y.Relief, r.Often(60))
		var row []int
		for k := range places {
			switch {
			case i == k:
				row = append(row, 0)
			case r.Often(20):
				row = append(row, -1)
			default:
				row = append(row, r.From(0, 60))
			}
		}
		y.Dead = append(y.Dead, row)
	}
	var tasks []api.Task
	now := 0
	for range n {
		now += r.From(0, 40)
		tasks = append(tasks, api.Task{From: r.Below(places), To: r.Below(places), Depart: now, Arrive: now + r.From(0, 60)})
	}
	return tasks, y
}

// TestCheck is for P8.1, and for tasks and yards as arguments of all functions.
func TestCheck(t *testing.T) {
	for name, c := range map[string]struct {
		do   func(tasks *[]api.Task, y *api.Yard)
		want api.Errno
	}{
		"as it is":          {func(l *[]api.Task, y *api.Yard) {}, api.OK},
		"from nowhere":      {func(l *[]api.Task, y *api.Yard) { (*l)[0].From = 2 }, api.ErrArg},
		"to nowhere":        {func(l *[]api.Task, y *api.Yard) { (*l)[0].To = -1 }, api.ErrArg},
		"to place 2":        {func(l *[]api.Task, y *api.Yard) { (*l)[4].To = 2 }, api.ErrArg},
		"departs early":     {func(l *[]api.Task, y *api.Yard) { (*l)[0].Depart = -1 }, api.ErrArg},
		"arrives early":     {func(l *[]api.Task, y *api.Yard) { (*l)[4].Arrive = 259 }, api.ErrArg},
		"takes no time":     {func(l *[]api.Task, y *api.Yard) { (*l)[4].Arrive = 260 }, api.OK},
		"arrives at last":   {func(l *[]api.Task, y *api.Yard) { (*l)[4].Arrive = 200000 }, api.OK},
		"arrives too late":  {func(l *[]api.Task, y *api.Yard) { (*l)[4].Arrive = 200001 }, api.ErrArg},
		"out of order":      {func(l *[]api.Task, y *api.Yard) { (*l)[1].Depart = 61 }, api.ErrArg},
		"out of order too":  {func(l *[]api.Task, y *api.Yard) { (*l)[0].Depart = 21 }, api.ErrArg},
		"equal departs":     {func(l *[]api.Task, y *api.Yard) { (*l)[1].Depart = 60 }, api.OK},
		"60 tasks":          {func(l *[]api.Task, y *api.Yard) { *l = slices.Repeat((*l)[:1], 60) }, api.OK},
		"61 tasks":          {func(l *[]api.Task, y *api.Yard) { *l = slices.Repeat((*l)[:1], 61) }, api.ErrArg},
		"no yard":           {func(l *[]api.Task, y *api.Yard) { *l, *y = nil, api.Yard{} }, api.ErrArg},
		"40 places":         {func(l *[]api.Task, y *api.Yard) { manyPlaces(y, 40) }, api.OK},
		"41 places":         {func(l *[]api.Task, y *api.Yard) { manyPlaces(y, 41) }, api.ErrArg},
		"a row missing":     {func(l *[]api.Task, y *api.Yard) { y.Dead = y.Dead[:1] }, api.ErrArg},
		"a short row":       {func(l *[]api.Task, y *api.Yard) { y.Dead[0] = y.Dead[0][:1] }, api.ErrArg},
		"a long row":        {func(l *[]api.Task, y *api.Yard) { y.Dead[1] = append(y.Dead[1], 0) }, api.ErrArg},
		"a way to itself":   {func(l *[]api.Task, y *api.Yard) { y.Dead[1][1] = 1 }, api.ErrArg},
		"no way to itself":  {func(l *[]api.Task, y *api.Yard) { y.Dead[1][1] = -1 }, api.ErrArg},
		"no way":            {func(l *[]api.Task, y *api.Yard) { y.Dead[1][0] = -1 }, api.OK},
		"less than no way":  {func(l *[]api.Task, y *api.Yard) { y.Dead[1][0] = -2 }, api.ErrArg},
		"a long way":        {func(l *[]api.Task, y *api.Yard) { y.Dead[1][0] = 20000 }, api.OK},
		"too long a way":    {func(l *[]api.Task, y *api.Yard) { y.Dead[1][0] = 20001 }, api.ErrArg},
		"turn -1":           {func(l *[]api.Task, y *api.Yard) { y.Turn = -1 }, api.ErrArg},
		"turn 3600":         {func(l *[]api.Task, y *api.Yard) { y.Turn = 3600 }, api.OK},
		"turn 3601":         {func(l *[]api.Task, y *api.Yard) { y.Turn = 3601 }, api.ErrArg},
		"huge":              {func(l *[]api.Task, y *api.Yard) { (*l)[0].From, (*l)[0].Arrive = math.MaxInt, math.MaxInt }, api.ErrArg},
		"a place of relief": {func(l *[]api.Task, y *api.Yard) { y.Relief = y.Relief[:1] }, api.ErrArg},
	} {
		tasks, y := example()
		c.do(&tasks, &y)
		if e := duty.Check(tasks, y); e != c.want {
			t.Error(name, e)
		}
		if c.want == api.OK {
			continue
		}
		cars := [][]int{{0, 2, 4}, {1, 3}}
		_, e0 := duty.Follows(tasks, y, 0, 1)
		l, p, e1 := duty.Cars(tasks, y)
		_, e2 := duty.Faults(tasks, y, cars, rules(), api.Duty{Pieces: make([]api.DutyPiece, 1)})
		_, e3 := duty.Duties(tasks, y, cars, rules())
		_, e4 := duty.Bare(tasks, y, cars, rules())
		if !slices.Equal([]api.Errno{e0, e1, e2, e3, e4}, slices.Repeat([]api.Errno{api.ErrArg}, 5)) || len(l)+len(p.First)+len(p.Second) > 0 || duty.Proves(tasks, y, 0, api.DutyProof{}) {
			t.Error(name, e0, e1, e2, e3, e4)
		}
	}
}

func manyPlaces(y *api.Yard, n int) {
	y.Dead, y.Relief = nil, make([]bool, n)
	for range n {
		y.Dead = append(y.Dead, make([]int, n))
	}
}

// canFollow says whether a task can follow another one.
func canFollow(tasks []api.Task, y api.Yard, a, b int) bool {
	d := y.Dead[tasks[a].To][tasks[b].From]
	return a < b && d != -1 && tasks[b].Depart-tasks[a].Arrive >= y.Turn+d
}

// TestFollows is for P8.1.
func TestFollows(t *testing.T) {
	tasks, y := example()
	for p, want := range map[[2]int]bool{{0, 2}: true, {1, 2}: false, {2, 4}: true, {3, 4}: true, {0, 4}: true, {2, 0}: false, {1, 1}: false} {
		if is, e := duty.Follows(tasks, y, p[0], p[1]); is != want || e != api.OK {
			t.Error(p, is, e)
		}
	}
	for _, p := range [][2]int{{-1, 0}, {0, 5}, {5, 0}, {0, -1}, {math.MaxInt, math.MinInt}} {
		if is, e := duty.Follows(tasks, y, p[0], p[1]); is || e != api.ErrArg {
			t.Error(p, is, e)
		}
	}
	short := []api.Task{{Depart: 5, Arrive: 5}, {Depart: 5, Arrive: 5}}
	for p, want := range map[[2]int]bool{{0, 0}: false, {0, 1}: true, {1, 0}: false} {
		if is, e := duty.Follows(short, api.Yard{Dead: [][]int{{0}}, Relief: []bool{true}}, p[0], p[1]); is != want || e != api.OK {
			t.Error(p, is, e)
		}
	}
	for seed := range 100 {
		tasks, y := random(sample.New(seed), 8)
		for a := range tasks {
			for b := range tasks {
				if is, e := duty.Follows(tasks, y, a, b); e != api.OK || is != canFollow(tasks, y, a, b) {
					t.Fatal(seed, a, b, is, e)
				}
			}
		}
	}
}

// followers returns the list of followers of cars.
func followers(cars [][]int, n int) []int {
	l := slices.Repeat([]int{n}, n)
	for _, car := range cars {
		for i := 1; i < len(car); i++ {
			l[car[i-1]] = car[i]
		}
	}
	return l
}

// bestFollowers tries all followers; the first list of those with the fewest cars.
func bestFollowers(tasks []api.Task, y api.Yard) []int {
	n := len(tasks)
	var best []int
	open := func(l []int) int {
		sum := 0
		for _, x := range l {
			if x == n {
				sum++
			}
		}
		return sum
	}
	var try func(l []int)
	try = func(l []int) {
		if len(l) == n {
			if best == nil || open(l) < open(best) {
				best = slices.Clone(l)
			}
			return
		}
		for b := len(l) + 1; b < n; b++ {
			if canFollow(tasks, y, len(l), b) && !slices.Contains(l, b) {
				try(append(slices.Clone(l), b))
			}
		}
		try(append(slices.Clone(l), n))
	}
	try(nil)
	return best
}

// TestCars is for P8.2: the plan of cars against all plans, with its proof.
func TestCars(t *testing.T) {
	tasks, y := example()
	cars, p, e := duty.Cars(tasks, y)
	if e != api.OK || !reflect.DeepEqual(cars, [][]int{{0, 2, 4}, {1, 3}}) || !slices.Equal(p.First, []int{0, 1}) || !slices.Equal(p.Second, []int{4}) {
		t.Error(cars, p, e)
	}
	for turn, want := range map[int]int{1: 1, 10: 1, 11: 2} {
		y.Turn = turn
		if cars, _, e := duty.Cars([]api.Task{tasks[0], tasks[2]}, y); e != api.OK || len(cars) != want {
			t.Error(turn, cars, e)
		}
	}
	if cars, p, e := duty.Cars(nil, y); e != api.OK || len(cars)+len(p.First)+len(p.Second) > 0 {
		t.Error(cars, p, e)
	}
	for seed := range 600 {
		tasks, y := random(sample.New(seed), seed%9)
		cars, p, e := duty.Cars(tasks, y)
		if e != api.OK || !slices.Equal(followers(cars, len(tasks)), bestFollowers(tasks, y)) {
			t.Fatal(seed, cars, bestFollowers(tasks, y), e)
		}
		checkPlan(t, seed, tasks, cars)
		checkProof(t, seed, tasks, y, cars, p)
	}
}

func checkPlan(t *testing.T, seed int, tasks []api.Task, cars [][]int) {
	t.Helper()
	count := 0
	for i, car := range cars {
		count += len(car)
		if len(car) == 0 || i > 0 && cars[i-1][0] >= car[0] {
			t.Fatal(seed, cars)
		}
	}
	if count != len(tasks) {
		t.Fatal(seed, cars)
	}
}

// checkProof checks the proof of a plan, and that it proves no more.
func checkProof(t *testing.T, seed int, tasks []api.Task, y api.Yard, cars [][]int, p api.DutyProof) {
	t.Helper()
	first, second := reached(tasks, y, cars)
	if !slices.Equal(p.First, first) || !slices.Equal(p.Second, second) {
		t.Fatal(seed, p, first, second)
	}
	if !duty.Proves(tasks, y, len(cars), p) || duty.Proves(tasks, y, len(cars)+1, p) || len(cars) > 0 && !duty.Proves(tasks, y, len(cars)-1, p) || duty.Proves(tasks, y, -1, p) {
		t.Fatal(seed, p)
	}
}

// reached returns First and Second of a proof, by marking tasks until nothing changes.
func reached(tasks []api.Task, y api.Yard, cars [][]int) ([]int, []int) {
	n := len(tasks)
	next := followers(cars, n)
	asFirst, asSecond := make([]bool, n), make([]bool, n)
	for range n + 1 {
		for a := range tasks {
			asFirst[a] = asFirst[a] || next[a] == n || asSecond[next[a]]
			for b := range tasks {
				asSecond[b] = asSecond[b] || asFirst[a] && canFollow(tasks, y, a, b)
			}
		}
	}
	var first, second []int
	for i := range tasks {
		if !asFirst[i] {
			first = append(first, i)
		}
		if asSecond[i] {
			second = append(second, i)
		}
	}
	return first, second
}

// TestProves is for P8.2: proofs against their definition; if any proof holds for a number of cars, no plan has fewer.
func TestProves(t *testing.T) {
	tasks, y := example()
	p := api.DutyProof{First: []int{0, 1}, Second: []int{4}}
	for _, c := range []struct {
		cars int
		p    api.DutyProof
		want bool
	}{
		{2, p, true}, {3, p, false}, {0, p, true}, {-1, p, false}, {math.MaxInt, p, false}, {math.MinInt, p, false},
		{2, api.DutyProof{First: []int{1, 0}, Second: []int{4}}, false}, {1, api.DutyProof{First: []int{0, 0, 1}, Second: []int{4}}, false},
		{2, api.DutyProof{First: []int{0, 1}, Second: []int{3}}, false}, {2, api.DutyProof{First: []int{-1, 0}, Second: []int{4}}, false},
		{1, api.DutyProof{First: []int{0, 1}, Second: []int{4, 5}}, false}, {1, api.DutyProof{First: []int{0, 1, 2, 3}}, true}, {2, api.DutyProof{First: []int{0, 1, 2, 3}}, false},
	} {
		if is := duty.Proves(tasks, y, c.cars, c.p); is != c.want {
			t.Error(c, is)
		}
	}
	held := 0
	for seed := range 3000 {
		r := sample.New(seed)
		tasks, y := random(r, r.From(0, 6))
		var p api.DutyProof
		for i := range tasks {
			if r.Often(40) {
				p.First = append(p.First, i)
			}
			if r.Often(40) {
				p.Second = append(p.Second, i)
			}
		}
		n := r.From(0, 4)
		want := len(p.First)+len(p.Second) <= len(tasks)-n
		for a := range tasks {
			for b := range tasks {
				if canFollow(tasks, y, a, b) && !slices.Contains(p.First, a) && !slices.Contains(p.Second, b) {
					want = false
				}
			}
		}
		if is := duty.Proves(tasks, y, n, p); is != want {
			t.Fatal(seed, p, is)
		}
		if cars, _, _ := duty.Cars(tasks, y); want && len(cars) < n {
			t.Fatal(seed, p, cars)
		}
		if want && n > 0 {
			held++
		}
	}
	if held < 20 {
		t.Error("the samples are too simple:", held)
	}
}

// TestManyCars is for P8.2: as many tasks as there can be, with a proof that the plan has the fewest cars.
func TestManyCars(t *testing.T) {
	for seed := range 40 {
		tasks, y := random(sample.New(seed), 60)
		cars, p, e := duty.Cars(tasks, y)
		if e != api.OK {
			t.Fatal(seed, e)
		}
		checkPlan(t, seed, tasks, cars)
		checkProof(t, seed, tasks, y, cars, p)
		for _, car := range cars {
			for i := 1; i < len(car); i++ {
				if !canFollow(tasks, y, car[i-1], car[i]) {
					t.Fatal(seed, car)
				}
			}
		}
	}
}

// TestCarsConsequences is for P8.6: without the last task, or with a shorter turn, no more cars are needed.
func TestCarsConsequences(t *testing.T) {
	for seed := range 300 {
		r := sample.New(seed)
		tasks, y := random(r, r.From(1, 20))
		cars, _, _ := duty.Cars(tasks, y)
		less, _, e := duty.Cars(tasks[:len(tasks)-1], y)
		y.Turn = r.From(0, y.Turn)
		faster, _, e1 := duty.Cars(tasks, y)
		if e != api.OK || e1 != api.OK || len(less) > len(cars) || len(faster) > len(cars) {
			t.Fatal(seed, cars, less, faster, e, e1)
		}
	}
}
