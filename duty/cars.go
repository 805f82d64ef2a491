package duty

import "tramline/api"

const nobody = -1

// matching says which task follows which one, in a plan of cars.
type matching struct {
	next   [][]int // for each task, those that can follow it, in order
	after  []int   // for each task, the one that follows it, or nobody
	before []int   // for each task, the one that it follows, or nobody
	fixed  int     // the tasks before this one keep their followers
}

func newMatching(w work) *matching {
	n := len(w.tasks)
	m := &matching{next: make([][]int, n), after: make([]int, n), before: make([]int, n)}
	for i := range n {
		m.after[i], m.before[i] = nobody, nobody
	}
	for a, b := range w.pairs() {
		m.next[a] = append(m.next[a], b)
	}
	return m
}

func (m *matching) join(a, b int) { m.after[a], m.before[b] = b, a }

func (m *matching) part(a, b int) {
	if a != nobody && b != nobody {
		m.after[a], m.before[b] = nobody, nobody
	}
}

// grow gives one more task a follower, if that is possible: along a way on which followers are exchanged.
func (m *matching) grow() bool {
	seen := make([]bool, len(m.next))
	var find func(a int) bool
	find = func(a int) bool {
		for _, b := range m.next[a] {
			if seen[b] || m.before[b] != nobody && m.before[b] < m.fixed {
				continue
			}
			seen[b] = true
			if m.before[b] == nobody || find(m.before[b]) {
				m.join(a, b)
				return true
			}
		}
		return false
	}
	for a := m.fixed; a < len(m.next); a++ {
		if m.after[a] == nobody && find(a) {
			return true
		}
	}
	return false
}

// choose lets a task be followed by another one, if as many tasks have followers then; the tasks before it keep theirs.
func (m *matching) choose(a, b int) bool {
	if m.after[a] == b {
		return true
	}
	if m.before[b] != nobody && m.before[b] < a {
		return false
	}
	old, other := m.after[a], m.before[b]
	m.part(a, old)
	m.part(other, b)
	m.join(a, b)
	m.fixed = a + 1
	if old == nobody || other == nobody || m.grow() {
		return true
	}
	m.part(a, b)
	m.join(a, old)
	m.join(other, b)
	return false
}

// fewest finds the followers of the plan of cars.
func (m *matching) fewest() {
	for m.grow() {
	}
	for a := range m.next {
		for _, b := range m.next[a] {
			if m.choose(a, b) {
				break
			}
		}
	}
}

// cars returns the cars, by their first tasks.
func (m *matching) cars() [][]int {
	var cars [][]int
	for first := range m.next {
		if m.before[first] != nobody {
			continue
		}
		var car []int
		for task := first; task != nobody; task = m.after[task] {
			car = append(car, task)
		}
		cars = append(cars, car)
	}
	return cars
}

// proof returns the proof that there are no fewer cars.
func (m *matching) proof() api.DutyProof {
	first, second := make([]bool, len(m.next)), make([]bool, len(m.next))
	var reach func(a int)
	reach = func(a int) {
		first[a] = true
		for _, b := range m.next[a] {
			if second[b] {
				continue
			}
			second[b] = true
			if before := m.before[b]; before != nobody && !first[before] {
				reach(before)
			}
		}
	}
	for a, b := range m.after {
		if b == nobody && !first[a] {
			reach(a)
		}
	}
	var p api.DutyProof
	for i := range m.next {
		if !first[i] {
			p.First = append(p.First, i)
		}
		if second[i] {
			p.Second = append(p.Second, i)
		}
	}
	return p
}
