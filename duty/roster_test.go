package duty_test

import (
	"cmp"
	"math"
	"reflect"
	"slices"
	"testing"

	"tramline/api"
	"tramline/duty"
	"tramline/sample"
	"tramline/service"
)

// rules returns the rules of work of the examples.
func rules() api.WorkRules {
	return api.WorkRules{Piece: 200, Span: 400, Work: 300, Break: 60, On: 10, Off: 10}
}

func randomRules(r *sample.Rand) api.WorkRules {
	return api.WorkRules{Piece: r.From(30, 200), Span: r.From(60, 500), Work: r.From(50, 300), Break: r.From(0, 60), On: r.From(0, 10), Off: r.From(0, 10)}
}

// randomCars returns any plan of cars: each task follows some car, or begins a new one.
func randomCars(r *sample.Rand, tasks []api.Task, y api.Yard) [][]int {
	var cars [][]int
	for task := range tasks {
		var may []int
		for i, car := range cars {
			if canFollow(tasks, y, car[len(car)-1], task) {
				may = append(may, i)
			}
		}
		if len(may) == 0 || r.Often(15) {
			cars = append(cars, []int{task})
			continue
		}
		i := may[r.Below(len(may))]
		cars[i] = append(cars[i], task)
	}
	return cars
}

func two(p, q api.DutyPiece) api.Duty { return api.Duty{Pieces: []api.DutyPiece{p, q}} }

// TestFaultsExamples is for P8.3.
func TestFaultsExamples(t *testing.T) {
	tasks, y := example()
	cars := [][]int{{0, 2, 4}, {1, 3}}
	a, b := api.DutyPiece{Last: 1}, api.DutyPiece{First: 2, Last: 2}
	for i, c := range []struct {
		change func(w *api.WorkRules)
		d      api.Duty
		want   []api.WorkFault
	}{
		{func(w *api.WorkRules) {}, two(a, b), nil},
		{func(w *api.WorkRules) { w.Break = 140 }, two(a, b), nil},
		{func(w *api.WorkRules) { w.Break = 141 }, two(a, b), []api.WorkFault{api.WorkBreak}},
		{func(w *api.WorkRules) { w.Span = 320 }, two(a, b), nil},
		{func(w *api.WorkRules) { w.Span = 319 }, two(a, b), []api.WorkFault{api.WorkSpan}},
		{func(w *api.WorkRules) { w.Work = 180 }, two(a, b), nil},
		{func(w *api.WorkRules) { w.Work = 179 }, two(a, b), []api.WorkFault{api.WorkTime}},
		{func(w *api.WorkRules) { w.Piece = 120 }, two(a, b), nil},
		{func(w *api.WorkRules) { w.Piece = 119 }, two(a, b), []api.WorkFault{api.WorkPiece}},
		{func(w *api.WorkRules) {}, two(b, a), []api.WorkFault{api.WorkOrder}},
		{func(w *api.WorkRules) {}, api.Duty{Pieces: []api.DutyPiece{{}}}, []api.WorkFault{api.WorkRelief}},
		{func(w *api.WorkRules) {}, api.Duty{Pieces: []api.DutyPiece{{First: 1, Last: 1}}}, []api.WorkFault{api.WorkRelief}},
		{func(w *api.WorkRules) { *w = api.WorkRules{Break: 200000} }, two(a, b), []api.WorkFault{api.WorkPiece, api.WorkBreak, api.WorkSpan, api.WorkTime}},
		{func(w *api.WorkRules) { *w = api.WorkRules{Break: 200000} }, two(b, api.DutyPiece{Car: 1}), []api.WorkFault{api.WorkPiece, api.WorkRelief, api.WorkOrder, api.WorkTime}},
	} {
		w := rules()
		c.change(&w)
		if l, e := duty.Faults(tasks, y, cars, w, c.d); e != api.OK || !slices.Equal(l, c.want) {
			t.Error(i, l, e)
		}
	}
}

// TestArguments is for P8.3 and P8.4: cars, rules and duties that are not as defined, and too many tasks.
func TestArguments(t *testing.T) {
	tasks, y := example()
	good := [][]int{{0, 2, 4}, {1, 3}}
	for name, cars := range map[string][][]int{
		"none": nil, "a task missing": {{0, 2}, {1, 3}}, "an empty car": {{0, 2, 4}, {1, 3}, {}}, "a task twice": {{0, 2, 4}, {1, 3, 4}}, "out of order": {{1, 3}, {0, 2, 4}},
		"cannot follow": {{0, 4}, {1, 2, 3}}, "backward": {{2, 0, 4}, {1, 3}}, "no such task": {{0, 2, 4}, {1, 3, 5}}, "task -1": {{-1, 0, 2, 4}, {1, 3}}, "twice the same car": {{0, 2, 4}, {0, 2, 4}, {1, 3}},
		"cannot follow at first": {{0, 1}, {2}, {3, 4}}, "one twice and one not": {{0, 2, 4}, {1}, {4}},
	} {
		_, e0 := duty.Faults(tasks, y, cars, rules(), api.Duty{Pieces: make([]api.DutyPiece, 1)})
		l, e1 := duty.Duties(tasks, y, cars, rules())
		b, e2 := duty.Bare(tasks, y, cars, rules())
		if e0 != api.ErrArg || e1 != api.ErrArg || e2 != api.ErrArg || len(l)+len(b) > 0 {
			t.Error(name, e0, e1, e2)
		}
	}
	if l, e := duty.Duties(tasks, y, [][]int{{0}, {1}, {2}, {3}, {4}}, rules()); e != api.OK || len(l) == 0 { // any plan of cars
		t.Error(l, e)
	}
	for i := range 6 {
		for _, x := range []int{-1, 200001, math.MaxInt, math.MinInt} {
			w := rules()
			*[]*int{&w.Piece, &w.Span, &w.Work, &w.Break, &w.On, &w.Off}[i] = x
			_, e0 := duty.Faults(tasks, y, good, w, api.Duty{Pieces: make([]api.DutyPiece, 1)})
			_, e1 := duty.Duties(tasks, y, good, w)
			_, e2 := duty.Bare(tasks, y, good, w)
			if e0 != api.ErrArg || e1 != api.ErrArg || e2 != api.ErrArg {
				t.Error(i, x, e0, e1, e2)
			}
		}
	}
	for _, pieces := range [][]api.DutyPiece{nil, make([]api.DutyPiece, 3), {{Car: 2}}, {{Car: -1}}, {{First: -1}}, {{First: 1}}, {{Last: 3}}, {{}, {Car: 1, Last: 2}}, {{First: math.MinInt, Last: math.MaxInt}}} {
		if l, e := duty.Faults(tasks, y, good, rules(), api.Duty{Pieces: pieces}); len(l) > 0 || e != api.ErrArg {
			t.Error(pieces, l, e)
		}
	}
	for n, want := range map[int]api.Errno{0: api.OK, 14: api.OK, 15: api.ErrLong} {
		var cars [][]int
		for i := range n {
			cars = append(cars, []int{i})
		}
		l, e := duty.Duties(slices.Repeat(tasks[:1], n), y, cars, rules())
		_, e1 := duty.Bare(slices.Repeat(tasks[:1], n), y, cars, rules())
		if e != want || e == api.OK && len(l) != n || e != api.OK && len(l) > 0 || e1 != api.OK {
			t.Error(n, l, e, e1)
		}
	}
}

// faultsOf returns the rules that a duty breaks, as the document defines them.
func faultsOf(tasks []api.Task, y api.Yard, cars [][]int, w api.WorkRules, d api.Duty) []api.WorkFault {
	found := map[api.WorkFault]bool{}
	sum := w.On + w.Off
	first := func(p api.DutyPiece) api.Task { return tasks[cars[p.Car][p.First]] }
	last := func(p api.DutyPiece) api.Task { return tasks[cars[p.Car][p.Last]] }
	for _, p := range d.Pieces {
		long := last(p).Arrive - first(p).Depart
		sum += long
		if long > w.Piece {
			found[api.WorkPiece] = true
		}
		if p.First != 0 && !y.Relief[first(p).From] || p.Last != len(cars[p.Car])-1 && !y.Relief[last(p).To] {
			found[api.WorkRelief] = true
		}
	}
	end := d.Pieces[0]
	if len(d.Pieces) == 2 {
		end = d.Pieces[1]
		dead := y.Dead[last(d.Pieces[0]).To][first(end).From]
		if pause := first(end).Depart - last(d.Pieces[0]).Arrive; pause < 0 || dead == -1 {
			found[api.WorkOrder] = true
		} else if pause < w.Break+dead {
			found[api.WorkBreak] = true
		}
	}
	found[api.WorkSpan] = last(end).Arrive-first(d.Pieces[0]).Depart+w.On+w.Off > w.Span
	found[api.WorkTime] = sum > w.Work
	var l []api.WorkFault
	for f := api.WorkPiece; f <= api.WorkTime; f++ {
		if found[f] {
			l = append(l, f)
		}
	}
	return l
}

// allPieces returns all pieces of cars.
func allPieces(cars [][]int) []api.DutyPiece {
	var l []api.DutyPiece
	for car, tasks := range cars {
		for first := range tasks {
			for last := first; last < len(tasks); last++ {
				l = append(l, api.DutyPiece{Car: car, First: first, Last: last})
			}
		}
	}
	return l
}

// TestFaults is for P8.3: all duties of random cars, and the tasks that none of them covers.
func TestFaults(t *testing.T) {
	seen := map[api.WorkFault]int{}
	bare := 0
	for seed := range 150 {
		r := sample.New(seed)
		tasks, y := random(r, r.From(1, 7))
		cars, w := randomCars(r, tasks, y), randomRules(r)
		covered := map[int]bool{}
		check := func(d api.Duty) {
			want := faultsOf(tasks, y, cars, w, d)
			if l, e := duty.Faults(tasks, y, cars, w, d); e != api.OK || !slices.Equal(l, want) {
				t.Fatal(seed, d, l, want, e)
			}
			for _, f := range want {
				seen[f]++
			}
			if len(want) > 0 {
				return
			}
			for _, p := range d.Pieces {
				for _, task := range cars[p.Car][p.First : p.Last+1] {
					covered[task] = true
				}
			}
		}
		for _, p := range allPieces(cars) {
			check(api.Duty{Pieces: []api.DutyPiece{p}})
			for _, q := range allPieces(cars) {
				check(two(p, q))
			}
		}
		var want []int
		for task := range tasks {
			if !covered[task] {
				want = append(want, task)
			}
		}
		bare += len(want)
		if l, e := duty.Bare(tasks, y, cars, w); e != api.OK || !slices.Equal(l, want) {
			t.Fatal(seed, l, want, e)
		}
	}
	for f := api.WorkPiece; f <= api.WorkTime; f++ {
		if seen[f] < 20 || bare < 20 {
			t.Error("the samples are too simple:", seen, bare)
		}
	}
	tasks, y := example()
	w := rules()
	w.Piece = 129
	if l, e := duty.Bare(tasks, y, [][]int{{0, 2, 4}, {1, 3}}, w); e != api.OK || !slices.Equal(l, []int{1, 3}) {
		t.Error(l, e)
	}
}

func comparePieces(a, b api.DutyPiece) int {
	return slices.Compare([]int{a.Car, a.First, a.Last}, []int{b.Car, b.First, b.Last})
}

func compareDuties(a, b api.Duty) int {
	return cmp.Or(comparePieces(a.Pieces[0], b.Pieces[0]), len(a.Pieces)-len(b.Pieces), slices.CompareFunc(a.Pieces, b.Pieces, comparePieces))
}

// bestDuties tries all plans of duties: all ways to cut the cars into pieces, and to put pieces together.
func bestDuties(tasks []api.Task, y api.Yard, cars [][]int, w api.WorkRules) ([]api.Duty, bool) {
	span := func(l []api.Duty) int {
		sum := 0
		for _, d := range l {
			p, q := d.Pieces[0], d.Pieces[len(d.Pieces)-1]
			sum += tasks[cars[q.Car][q.Last]].Arrive - tasks[cars[p.Car][p.First]].Depart
		}
		return sum
	}
	var best []api.Duty
	found := false
	var join func(done []api.Duty, left []api.DutyPiece)
	join = func(done []api.Duty, left []api.DutyPiece) {
		if len(left) == 0 {
			plan := slices.Clone(done)
			slices.SortFunc(plan, compareDuties)
			if !found || cmp.Or(len(plan)-len(best), span(plan)-span(best), slices.CompareFunc(plan, best, compareDuties)) < 0 {
				best, found = plan, true
			}
			return
		}
		with := func(d api.Duty, rest []api.DutyPiece) {
			if len(faultsOf(tasks, y, cars, w, d)) == 0 {
				join(append(slices.Clone(done), d), rest)
			}
		}
		with(api.Duty{Pieces: left[:1]}, left[1:])
		for i := 1; i < len(left); i++ {
			rest := slices.Delete(slices.Clone(left[1:]), i-1, i)
			with(two(left[0], left[i]), rest)
			with(two(left[i], left[0]), rest)
		}
	}
	var cut func(pieces []api.DutyPiece, car, from int)
	cut = func(pieces []api.DutyPiece, car, from int) {
		switch {
		case car == len(cars):
			join(nil, pieces)
		case from == len(cars[car]):
			cut(pieces, car+1, 0)
		default:
			for last := from; last < len(cars[car]); last++ {
				cut(append(slices.Clone(pieces), api.DutyPiece{Car: car, First: from, Last: last}), car, last+1)
			}
		}
	}
	cut(nil, 0, 0)
	return best, found
}

// TestDuties is for P8.4: the plan of duties against all plans.
func TestDuties(t *testing.T) {
	tasks, y := example()
	cars := [][]int{{0, 2, 4}, {1, 3}}
	want := []api.Duty{{Pieces: []api.DutyPiece{{Last: 1}}}, {Pieces: []api.DutyPiece{{Car: 1, Last: 1}, {First: 2, Last: 2}}}}
	if l, e := duty.Duties(tasks, y, cars, rules()); e != api.OK || !reflect.DeepEqual(l, want) {
		t.Error(l, e)
	}
	seen := map[api.Errno]int{}
	ties := 0
	for seed := range 500 {
		r := sample.New(seed)
		tasks, y := random(r, r.From(0, 7))
		for i := range tasks { // many plans of equal spans
			tasks[i].Depart, tasks[i].Arrive = tasks[i].Depart/20*20, (tasks[i].Arrive+19)/20*20
			if seed%2 == 0 {
				tasks[i].Depart = tasks[i].Depart / 60 * 60
				tasks[i].Arrive = tasks[i].Depart + 20
			}
		}
		cars, w := randomCars(r, tasks, y), randomRules(r)
		best, found := bestDuties(tasks, y, cars, w)
		l, e := duty.Duties(tasks, y, cars, w)
		seen[e]++
		if found != (e == api.OK) || !found && (e != api.ErrNone || len(l) > 0) || !slices.EqualFunc(l, best, func(a, b api.Duty) bool { return slices.Equal(a.Pieces, b.Pieces) }) {
			t.Fatal(seed, l, best, e)
		}
		if bare, _ := duty.Bare(tasks, y, cars, w); found && len(bare) > 0 {
			t.Fatal(seed, bare)
		}
		for _, d := range l {
			if len(d.Pieces) == 2 && d.Pieces[1].Car < d.Pieces[0].Car {
				ties++
			}
		}
		checkLooser(t, r, tasks, y, cars, w, l, e)
	}
	if seen[api.OK] < 50 || seen[api.ErrNone] < 50 || ties < 5 {
		t.Error("the samples are too simple:", seen, ties)
	}
}

// TestTies is for P8.4: of plans with equal spans, the one whose first pieces come first is meant, although its first tasks do not.
func TestTies(t *testing.T) {
	tasks := []api.Task{{Arrive: 100}, {Depart: 10, Arrive: 20}, {Depart: 200, Arrive: 210}, {Depart: 200, Arrive: 210}}
	y := api.Yard{Dead: [][]int{{0}}, Relief: []bool{true}}
	w := api.WorkRules{Piece: 100, Span: 1000, Work: 100}
	want := []api.Duty{{Pieces: []api.DutyPiece{{}}}, {Pieces: []api.DutyPiece{{First: 1, Last: 1}}}, two(api.DutyPiece{Car: 1}, api.DutyPiece{Car: 2})}
	if l, e := duty.Duties(tasks, y, [][]int{{0, 2}, {1}, {3}}, w); e != api.OK || !reflect.DeepEqual(l, want) {
		t.Error(l, e)
	}
}

// checkLooser checks P8.6: looser rules never need more duties, and leave no other task bare.
func checkLooser(t *testing.T, r *sample.Rand, tasks []api.Task, y api.Yard, cars [][]int, w api.WorkRules, l []api.Duty, e api.Errno) {
	t.Helper()
	looser := api.WorkRules{Piece: w.Piece + r.From(0, 50), Span: w.Span + r.From(0, 50), Work: w.Work + r.From(0, 50), Break: r.From(0, w.Break), On: r.From(0, w.On), Off: r.From(0, w.Off)}
	k, e1 := duty.Duties(tasks, y, cars, looser)
	if e == api.OK && (e1 != api.OK || len(k) > len(l)) {
		t.Fatal(w, looser, l, k, e1)
	}
	before, _ := duty.Bare(tasks, y, cars, w)
	after, _ := duty.Bare(tasks, y, cars, looser)
	for _, task := range after {
		if !slices.Contains(before, task) {
			t.Fatal(w, looser, before, after)
		}
	}
}

// TestGreatDuties is for P8.4: as many tasks as there can be, in one car and in many.
func TestGreatDuties(t *testing.T) {
	_, y := example()
	y.Relief[1] = true
	var tasks []api.Task
	var one []int
	var many [][]int
	for i := range 14 {
		tasks = append(tasks, api.Task{From: i % 2, To: 1 - i%2, Depart: 100 * i, Arrive: 100*i + 60})
		one = append(one, i)
		many = append(many, []int{i})
	}
	w := api.WorkRules{Piece: 200000, Span: 200000, Work: 460}
	l, e := duty.Duties(tasks, y, [][]int{one}, w)
	if e != api.OK || len(l) != 3 {
		t.Error(l, e)
	}
	if l, e := duty.Duties(tasks, y, many, w); e != api.OK || len(l) != 7 {
		t.Error(l, e)
	}
}

// TestTasks is for P8.5 and P8.6: the tasks of trips, whose cars can run them one after the other.
func TestTasks(t *testing.T) {
	p := sample.Street()
	line, ok := sample.ExampleLine()
	if !ok {
		t.Fatal("there is no such line")
	}
	s := api.Service{Lines: []api.Line{line, line}, Headways: []int{100, 150}, Offsets: []int{0, 20}}
	trips, e := service.Trips(p, s, nil, 0, 900)
	if e != api.OK {
		t.Fatal(e)
	}
	tasks, e := duty.Tasks(p, s, trips)
	if e != api.OK || len(tasks) != len(trips) {
		t.Fatal(tasks, e)
	}
	y := api.Yard{Turn: line.Layover, Relief: make([]bool, 4)}
	manyPlaces(&y, 4)
	for i, x := range trips {
		from, to := 2*x.Line, 2*x.Line+1
		if x.Home {
			from, to = to, from
		}
		if tasks[i] != (api.Task{From: from, To: to, Depart: x.Depart, Arrive: x.Depart + 120}) {
			t.Error(i, x, tasks[i])
		}
		for k := i - 1; k >= 0; k-- {
			if trips[k].Line == x.Line && trips[k].Car == x.Car {
				if is, e := duty.Follows(tasks, y, k, i); !is || e != api.OK {
					t.Error(k, i, is, e)
				}
				break
			}
		}
	}
	for name, c := range map[string]struct {
		do   func(s *api.Service, l *[]api.Trip)
		want api.Errno
	}{
		"as they are":      {func(s *api.Service, l *[]api.Trip) {}, api.OK},
		"none":             {func(s *api.Service, l *[]api.Trip) { *l = nil }, api.OK},
		"broken service":   {func(s *api.Service, l *[]api.Trip) { s.Headways = []int{100, 29} }, api.ErrArg},
		"no such line":     {func(s *api.Service, l *[]api.Trip) { (*l)[0].Line = 2 }, api.ErrArg},
		"line -1":          {func(s *api.Service, l *[]api.Trip) { (*l)[0].Line = -1 }, api.ErrArg},
		"departs early":    {func(s *api.Service, l *[]api.Trip) { (*l)[0].Depart = -1 }, api.ErrArg},
		"departs too late": {func(s *api.Service, l *[]api.Trip) { *l = []api.Trip{{Depart: 200001}} }, api.ErrArg},
		"arrives too late": {func(s *api.Service, l *[]api.Trip) { *l = []api.Trip{{Depart: 199881}} }, api.ErrLong},
		"arrives at last":  {func(s *api.Service, l *[]api.Trip) { *l = []api.Trip{{Depart: 199880}} }, api.OK},
		"out of order":     {func(s *api.Service, l *[]api.Trip) { *l = []api.Trip{{Depart: 1}, {}} }, api.ErrArg},
		"any car":          {func(s *api.Service, l *[]api.Trip) { *l = []api.Trip{{Car: -7}, {Car: math.MaxInt}} }, api.OK},
		"60 trips":         {func(s *api.Service, l *[]api.Trip) { *l = make([]api.Trip, 60) }, api.OK},
		"61 trips":         {func(s *api.Service, l *[]api.Trip) { *l = make([]api.Trip, 61) }, api.ErrLong},
		"both":             {func(s *api.Service, l *[]api.Trip) { *l = make([]api.Trip, 61); (*l)[60].Line = 9 }, api.ErrArg},
	} {
		s, l := s, slices.Clone(trips)
		c.do(&s, &l)
		if tasks, e := duty.Tasks(p, s, l); e != c.want || e == api.OK && len(tasks) != len(l) || e != api.OK && len(tasks) > 0 {
			t.Error(name, tasks, e)
		}
	}
}
