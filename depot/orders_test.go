package depot_test

import (
	"math"
	"slices"
	"testing"

	"tramline/api"
	"tramline/depot"
	"tramline/sample"
)

// shuffled returns an order of n cars that looks random.
func shuffled(r *sample.Rand, n int) []int {
	l := make([]int, n)
	for i := range l {
		l[i] = i
	}
	for i := range l {
		k := r.Below(n)
		l[i], l[k] = l[k], l[i]
	}
	return l
}

// inWay says whether two cars are in each other's way.
func inWay(order []int, through bool, i, j int) bool {
	if i > j {
		i, j = j, i
	}
	if through {
		return order[j] < order[i]
	}
	return order[i] < order[j]
}

// TestAssignExamples is for P9.1.
func TestAssignExamples(t *testing.T) {
	order := []int{2, 0, 1}
	for _, c := range []struct {
		through       bool
		tracks, proof []int
	}{{false, []int{0, 0, 1}, []int{1, 2}}, {true, []int{0, 1, 1}, []int{0, 1}}} {
		tracks, proof, e := depot.Assign(order, c.through)
		if e != api.OK || !slices.Equal(tracks, c.tracks) || !slices.Equal(proof, c.proof) {
			t.Error(c, tracks, proof, e)
		}
	}
	if tracks, proof, e := depot.Assign(nil, false); e != api.OK || len(tracks)+len(proof) > 0 {
		t.Error(tracks, proof, e)
	}
	for _, order := range [][]int{{1}, {0, 0}, {-1, 0}, {0, 2}, {math.MaxInt}, {math.MinInt, 0}} {
		if tracks, proof, e := depot.Assign(order, true); e != api.ErrArg || len(tracks)+len(proof) > 0 {
			t.Error(order, tracks, proof, e)
		}
		if depot.Proves(order, true, 0, nil) {
			t.Error(order)
		}
	}
	for n, want := range map[int]api.Errno{200: api.OK, 201: api.ErrArg} {
		order := shuffled(sample.New(n), n)
		tracks, proof, e := depot.Assign(order, false)
		if e != want || depot.Proves(order, false, len(proof), proof) != (e == api.OK) || e == api.OK && slices.Max(tracks)+1 != len(proof) {
			t.Error(n, tracks, proof, e)
		}
	}
}

// bestProof returns the first one of the longest lists of cars in each other's way, by trying all sets.
func bestProof(order []int, through bool) []int {
	var best []int
	for set := range 1 << len(order) {
		var l []int
		ok := true
		for car := range order {
			if set>>car&1 == 1 {
				ok = ok && !slices.ContainsFunc(l, func(other int) bool { return !inWay(order, through, other, car) })
				l = append(l, car)
			}
		}
		if ok && (len(l) > len(best) || len(l) == len(best) && slices.Compare(l, best) < 0) {
			best = l
		}
	}
	return best
}

// TestAssign is for P9.1: the first track that is free, and the first proof; nobody needs fewer tracks.
func TestAssign(t *testing.T) {
	for seed := range 300 {
		r := sample.New(seed)
		order := shuffled(r, r.From(1, 9))
		through := r.Often(50)
		tracks, proof, e := depot.Assign(order, through)
		if e != api.OK {
			t.Fatal(seed, e)
		}
		for car, track := range tracks {
			for other := range car {
				if tracks[other] == track && inWay(order, through, other, car) {
					t.Fatal(seed, order, tracks)
				}
			}
			for less := range track { // somebody is in the way on each track before
				if !slices.ContainsFunc(ints(car), func(other int) bool { return tracks[other] == less && inWay(order, through, other, car) }) {
					t.Fatal(seed, order, tracks)
				}
			}
		}
		used := slices.Max(tracks) + 1
		if !slices.Equal(proof, bestProof(order, through)) || len(proof) != used {
			t.Fatal(seed, order, through, proof, bestProof(order, through))
		}
		if !depot.Proves(order, through, used, proof) || depot.Proves(order, through, used+1, proof) {
			t.Fatal(seed, order, proof)
		}
	}
}

func ints(n int) []int {
	l := make([]int, n)
	for i := range l {
		l[i] = i
	}
	return l
}

// TestProves is for P9.1: lists that prove something, and others.
func TestProves(t *testing.T) {
	order := []int{2, 0, 1}
	for _, c := range []struct {
		through bool
		tracks  int
		proof   []int
		want    bool
	}{
		{false, 2, []int{1, 2}, true}, {false, 3, []int{1, 2}, false}, {false, 1, []int{1, 2}, true}, {false, 0, nil, true}, {false, -1, nil, false}, {false, -1, []int{1, 2}, false},
		{false, 2, []int{0, 1}, false}, {true, 2, []int{0, 1}, true}, {true, 2, []int{0, 2}, true}, {true, 2, []int{1, 2}, false}, {false, 2, []int{2, 1}, false},
		{false, 1, []int{1, 1}, false}, {false, 1, []int{3}, false}, {false, 1, []int{-1}, false}, {false, 0, []int{0, 1}, false}, {false, 1, []int{2}, true}, {false, math.MaxInt, []int{2}, false}, {true, 1, []int{math.MinInt, math.MaxInt}, false},
	} {
		if is := depot.Proves(order, c.through, c.tracks, c.proof); is != c.want {
			t.Error(c, is)
		}
	}
	if depot.Proves([]int{1, 0}, false, 2, []int{1, 0}) || depot.Proves([]int{0, 1}, true, 2, []int{1, 0}) {
		t.Error("a list that does not increase")
	}
	held := 0
	for seed := range 2000 {
		r := sample.New(seed)
		order := shuffled(r, r.From(1, 6))
		through := r.Often(50)
		var proof []int
		want := true
		for car := range order {
			if r.Often(50) {
				want = want && !slices.ContainsFunc(proof, func(other int) bool { return !inWay(order, through, other, car) })
				proof = append(proof, car)
			}
		}
		n := r.From(0, 4)
		want = want && len(proof) >= n
		if is := depot.Proves(order, through, n, proof); is != want {
			t.Fatal(seed, order, through, n, proof, is)
		}
		if tracks, _, _ := depot.Assign(order, through); want && slices.Max(tracks)+1 < n {
			t.Fatal(seed, order, proof, tracks)
		}
		if want && n > 1 {
			held++
		}
	}
	if held < 20 {
		t.Error("the samples are too simple:", held)
	}
}

// TestBackward is for P9.6: an order that is read backward needs as many dead ends as the order needs through tracks.
func TestBackward(t *testing.T) {
	for seed := range 100 {
		r := sample.New(seed)
		order := shuffled(r, r.From(1, 60))
		through, _, e := depot.Assign(order, true)
		slices.Reverse(order)
		dead, _, e1 := depot.Assign(order, false)
		if e != api.OK || e1 != api.OK || slices.Max(through) != slices.Max(dead) {
			t.Fatal(seed, through, dead, e, e1)
		}
	}
}

// TestWash is for P9.5: the best order against all orders.
func TestWash(t *testing.T) {
	jobs := []api.WashJob{{From: 0, Until: 10, Seconds: 5}, {From: 0, Until: 5, Seconds: 5}, {From: 20, Until: 30, Seconds: 5}}
	if l, late, e := depot.Wash(jobs); !slices.Equal(l, []int{1, 0, 2}) || late != 0 || e != api.OK {
		t.Error(l, late, e)
	}
	if late, end, e := depot.Late(jobs, []int{0, 1, 2}); late != 5 || end != 25 || e != api.OK {
		t.Error(late, end, e)
	}
	for seed := range 150 {
		r := sample.New(seed)
		var jobs []api.WashJob
		for range r.From(0, 6) {
			from := r.From(0, 30)
			jobs = append(jobs, api.WashJob{From: from, Until: from + r.From(0, 30), Seconds: r.From(1, 15)})
		}
		var best []int
		bestLate, bestEnd := math.MaxInt, math.MaxInt
		permutations(ints(len(jobs)), func(order []int) {
			late, end := 0, 0
			for _, i := range order {
				end = max(end, jobs[i].From) + jobs[i].Seconds
				late = max(late, end-jobs[i].Until)
			}
			if l, x, e := depot.Late(jobs, order); l != late || x != end || e != api.OK {
				t.Fatal(seed, order, l, x, e)
			}
			if late < bestLate || late == bestLate && end < bestEnd {
				best, bestLate, bestEnd = slices.Clone(order), late, end
			}
		})
		if l, late, e := depot.Wash(jobs); !slices.Equal(l, best) || late != bestLate || e != api.OK {
			t.Fatal(seed, jobs, l, late, best, bestLate, e)
		}
	}
}

// permutations calls a function for each order of a list, in lexicographic order.
func permutations(l []int, do func([]int)) {
	var extend func(done, left []int)
	extend = func(done, left []int) {
		if len(left) == 0 {
			do(done)
		}
		for i, x := range left {
			extend(append(slices.Clone(done), x), slices.Delete(slices.Clone(left), i, i+1))
		}
	}
	extend(nil, l)
}

// TestWashArguments is for P9.5: jobs and orders that are not as defined.
func TestWashArguments(t *testing.T) {
	good := api.WashJob{From: 5, Until: 9, Seconds: 3}
	for _, c := range []struct {
		j    api.WashJob
		want api.Errno
	}{
		{good, api.OK}, {api.WashJob{Seconds: 100000}, api.OK}, {api.WashJob{From: 200000, Until: 200000, Seconds: 1}, api.OK}, {api.WashJob{}, api.ErrArg}, {api.WashJob{Seconds: 100001}, api.ErrArg},
		{api.WashJob{From: -1, Seconds: 1}, api.ErrArg}, {api.WashJob{From: 1, Seconds: 1}, api.ErrArg}, {api.WashJob{Until: 200001, Seconds: 1}, api.ErrArg}, {api.WashJob{Until: math.MaxInt, Seconds: math.MaxInt}, api.ErrArg},
	} {
		l, late, e := depot.Wash([]api.WashJob{good, c.j})
		late1, end, e1 := depot.Late([]api.WashJob{good, c.j}, []int{0, 1})
		if e != c.want || e1 != c.want || e != api.OK && len(l)+late+late1+end != 0 {
			t.Error(c, l, late, e, e1)
		}
	}
	for n, want := range map[int]api.Errno{0: api.OK, 8: api.OK, 9: api.ErrArg} {
		jobs := slices.Repeat([]api.WashJob{good}, n)
		l, _, e := depot.Wash(jobs)
		_, end, e1 := depot.Late(jobs, ints(n))
		if e != want || e1 != want || e == api.OK && (!slices.Equal(l, ints(n)) || end != min(n, 1)*5+3*n) {
			t.Error(n, l, end, e, e1)
		}
	}
	for _, order := range [][]int{nil, {0}, {0, 1, 2}, {0, 0}, {0, 2}, {-1, 0}} {
		if late, end, e := depot.Late([]api.WashJob{good, good}, order); late != 0 || end != 0 || e != api.ErrArg {
			t.Error(order, late, end, e)
		}
	}
}
