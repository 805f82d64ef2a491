package depot

import (
	"iter"
	"slices"

	"tramline/api"
)

const mostWash = 100000

func jobsRight(jobs []api.WashJob) bool {
	for _, j := range jobs {
		if !timeRight(j.From) || !timeRight(j.Until) || j.From > j.Until || !within(j.Seconds, 1, mostWash) {
			return false
		}
	}
	return len(jobs) <= api.WashMany
}

// washed is an order of jobs with what it comes to.
type washed struct {
	order []int
	late  int
	end   int
}

func wash(jobs []api.WashJob, order []int) washed {
	w := washed{order: order}
	for _, i := range order {
		w.end = max(w.end, jobs[i].From) + jobs[i].Seconds
		w.late = max(w.late, w.end-jobs[i].Until)
	}
	return w
}

// permutations yields all orders of numbers, in lexicographic order if the numbers increase.
func permutations(numbers ...int) iter.Seq[[]int] {
	return func(yield func([]int) bool) {
		var extend func(done, left []int) bool
		extend = func(done, left []int) bool {
			if len(left) == 0 {
				return yield(slices.Clone(done))
			}
			for i, x := range left {
				if !extend(append(done, x), slices.Concat(left[:i], left[i+1:])) {
					return false
				}
			}
			return true
		}
		extend(make([]int, 0, len(numbers)), numbers)
	}
}

// first returns the first one of several of which none is better.
func first[T any](all iter.Seq[T], better func(x, y T) bool) T {
	var found T
	some := false
	for x := range all {
		if !some || better(x, found) {
			found, some = x, true
		}
	}
	return found
}

// bestWash returns the best order of jobs.
func bestWash(jobs []api.WashJob) washed {
	numbers := make([]int, len(jobs))
	for i := range numbers {
		numbers[i] = i
	}
	orders := func(yield func(washed) bool) {
		for order := range permutations(numbers...) {
			if !yield(wash(jobs, order)) {
				return
			}
		}
	}
	return first(orders, func(x, y washed) bool { return x.late < y.late || x.late == y.late && x.end < y.end })
}
