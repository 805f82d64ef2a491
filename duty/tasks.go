package duty

import (
	"iter"
	"slices"

	"tramline/api"
)

const mostTurn = 3600

func within(x, least, most int) bool { return x >= least && x <= most }

// work is tasks with the yard in which they are run.
type work struct {
	tasks []api.Task
	yard  api.Yard
}

// right reports whether tasks and a yard are as defined.
func (w work) right() bool {
	return yardRight(w.yard) && w.tasksRight()
}

func yardRight(y api.Yard) bool {
	places := len(y.Relief)
	if !within(places, 1, api.DutyPlaces) || len(y.Dead) != places || !within(y.Turn, 0, mostTurn) {
		return false
	}
	for i, row := range y.Dead {
		if len(row) != places || row[i] != 0 {
			return false
		}
		for _, seconds := range row {
			if !within(seconds, -1, api.DutyDead) {
				return false
			}
		}
	}
	return true
}

func (w work) tasksRight() bool {
	places := len(w.yard.Relief)
	for i, t := range w.tasks {
		if !within(t.From, 0, places-1) || !within(t.To, 0, places-1) {
			return false
		}
		if t.Depart < 0 || t.Depart > t.Arrive || t.Arrive > api.DutyTime || i > 0 && w.tasks[i-1].Depart > t.Depart {
			return false
		}
	}
	return len(w.tasks) <= api.DutyTasks
}

func (w work) has(task int) bool { return within(task, 0, len(w.tasks)-1) }

// follows reports whether a task can follow another one.
func (w work) follows(a, b int) bool {
	if a >= b {
		return false
	}
	dead := w.yard.Dead[w.tasks[a].To][w.tasks[b].From]
	return dead >= 0 && w.tasks[a].Arrive+w.yard.Turn+dead <= w.tasks[b].Depart
}

// pairs yields all pairs of tasks of which the second one can follow the first one, in order.
func (w work) pairs() iter.Seq2[int, int] {
	return func(yield func(int, int) bool) {
		for a := range w.tasks {
			for b := a + 1; b < len(w.tasks); b++ {
				if w.follows(a, b) && !yield(a, b) {
					return
				}
			}
		}
	}
}

// carsRight reports whether a list is a plan of cars.
func (w work) carsRight(cars [][]int) bool {
	seen := make([]bool, len(w.tasks))
	left := len(w.tasks)
	for i, car := range cars {
		if len(car) == 0 {
			return false
		}
		for k, task := range car {
			if !w.has(task) || seen[task] || k > 0 && !w.follows(car[k-1], task) {
				return false
			}
			seen[task] = true
			left--
		}
		if i > 0 && cars[i-1][0] > car[0] {
			return false
		}
	}
	return left == 0
}

// increasing reports whether a list contains tasks, strictly increasing.
func (w work) increasing(l []int) bool {
	for i, task := range l {
		if !w.has(task) || i > 0 && l[i-1] >= task {
			return false
		}
	}
	return true
}

// proves reports whether a proof holds that at least so many cars are needed.
func (w work) proves(cars int, p api.DutyProof) bool {
	if !w.increasing(p.First) || !w.increasing(p.Second) || len(p.First)+len(p.Second) > len(w.tasks)-cars {
		return false
	}
	for a, b := range w.pairs() {
		if !slices.Contains(p.First, a) && !slices.Contains(p.Second, b) {
			return false
		}
	}
	return true
}
