package duty

import (
	"cmp"
	"math/bits"
	"slices"

	"tramline/api"
)

// roster is work whose cars are planned, with rules of work for drivers.
type roster struct {
	work
	cars  [][]int
	rules api.WorkRules
}

func rulesRight(r api.WorkRules) bool {
	for _, seconds := range []int{r.Piece, r.Span, r.Work, r.Break, r.On, r.Off} {
		if !within(seconds, 0, api.DutyTime) {
			return false
		}
	}
	return true
}

func (r roster) right() bool {
	return r.work.right() && r.carsRight(r.cars) && rulesRight(r.rules)
}

// exists reports whether a piece is one of the cars.
func (r roster) exists(p api.DutyPiece) bool {
	return within(p.Car, 0, len(r.cars)-1) && p.First >= 0 && p.First <= p.Last && p.Last < len(r.cars[p.Car])
}

func (r roster) first(p api.DutyPiece) api.Task { return r.tasks[r.cars[p.Car][p.First]] }

func (r roster) last(p api.DutyPiece) api.Task { return r.tasks[r.cars[p.Car][p.Last]] }

// seconds returns how long a piece lasts.
func (r roster) seconds(p api.DutyPiece) int { return r.last(p).Arrive - r.first(p).Depart }

// span returns the seconds from the beginning of the first piece of a duty to the end of the last one.
func (r roster) span(d api.Duty) int {
	return r.last(d.Pieces[len(d.Pieces)-1]).Arrive - r.first(d.Pieces[0]).Depart
}

// The rules return whether a duty breaks them.

func (r roster) pieceFault(d api.Duty) bool {
	for _, p := range d.Pieces {
		if r.seconds(p) > r.rules.Piece {
			return true
		}
	}
	return false
}

func (r roster) reliefFault(d api.Duty) bool {
	for _, p := range d.Pieces {
		if p.First > 0 && !r.yard.Relief[r.first(p).From] || p.Last < len(r.cars[p.Car])-1 && !r.yard.Relief[r.last(p).To] {
			return true
		}
	}
	return false
}

// between returns the seconds between the pieces of a duty, and those of the way without riders from one to the other, or -1.
func (r roster) between(d api.Duty) (int, int) {
	end, begin := r.last(d.Pieces[0]), r.first(d.Pieces[1])
	return begin.Depart - end.Arrive, r.yard.Dead[end.To][begin.From]
}

func (r roster) orderFault(d api.Duty) bool {
	if len(d.Pieces) < 2 {
		return false
	}
	seconds, dead := r.between(d)
	return seconds < 0 || dead < 0
}

func (r roster) breakFault(d api.Duty) bool {
	if len(d.Pieces) < 2 || r.orderFault(d) {
		return false
	}
	seconds, dead := r.between(d)
	return seconds < r.rules.Break+dead
}

func (r roster) spanFault(d api.Duty) bool {
	return r.span(d)+r.rules.On+r.rules.Off > r.rules.Span
}

func (r roster) timeFault(d api.Duty) bool {
	sum := r.rules.On + r.rules.Off
	for _, p := range d.Pieces {
		sum += r.seconds(p)
	}
	return sum > r.rules.Work
}

// faults returns the rules that a duty breaks, in order.
func (r roster) faults(d api.Duty) []api.WorkFault {
	breaks := [...]func(api.Duty) bool{
		api.WorkPiece:  r.pieceFault,
		api.WorkRelief: r.reliefFault,
		api.WorkOrder:  r.orderFault,
		api.WorkBreak:  r.breakFault,
		api.WorkSpan:   r.spanFault,
		api.WorkTime:   r.timeFault,
	}
	var l []api.WorkFault
	for f := api.WorkPiece; f <= api.WorkTime; f++ {
		if breaks[f](d) {
			l = append(l, f)
		}
	}
	return l
}

// pieces returns those pieces that keep the rules by themselves, in order. A duty of two pieces that keeps them has no others.
func (r roster) pieces() []api.DutyPiece {
	var l []api.DutyPiece
	for car, tasks := range r.cars {
		for first := range tasks {
			for last := first; last < len(tasks); last++ {
				p := api.DutyPiece{Car: car, First: first, Last: last}
				if len(r.faults(api.Duty{Pieces: []api.DutyPiece{p}})) == 0 {
					l = append(l, p)
				}
			}
		}
	}
	return l
}

// bare returns the tasks that no duty can have.
func (r roster) bare() []int {
	covered := make([]bool, len(r.tasks))
	for _, p := range r.pieces() {
		for _, task := range r.cars[p.Car][p.First : p.Last+1] {
			covered[task] = true
		}
	}
	var l []int
	for task, is := range covered {
		if !is {
			l = append(l, task)
		}
	}
	return l
}

// shift is a duty that keeps the rules, with its tasks as bits.
type shift struct {
	duty api.Duty
	set  int
	span int
}

func (r roster) shift(pieces ...api.DutyPiece) shift {
	s := shift{duty: api.Duty{Pieces: pieces}}
	s.span = r.span(s.duty)
	for _, p := range pieces {
		for _, task := range r.cars[p.Car][p.First : p.Last+1] {
			s.set |= 1 << task
		}
	}
	return s
}

// shifts returns all duties that keep the rules, by their least tasks.
func (r roster) shifts() [][]shift {
	all := make([][]shift, len(r.tasks))
	add := func(s shift) {
		least := bits.TrailingZeros(uint(s.set))
		all[least] = append(all[least], s)
	}
	pieces := r.pieces()
	for _, p := range pieces {
		add(r.shift(p))
		for _, q := range pieces {
			s := r.shift(p, q)
			if r.shift(p).set&r.shift(q).set == 0 && len(r.faults(s.duty)) == 0 {
				add(s)
			}
		}
	}
	return all
}

// plan is duties in order, and the sum of their spans.
type plan struct {
	shifts []shift
	span   int
}

// with returns a plan with one more duty.
func (p plan) with(s shift) plan {
	i := 0
	for i < len(p.shifts) && compareShifts(p.shifts[i], s) < 0 {
		i++
	}
	return plan{shifts: slices.Concat(p.shifts[:i], []shift{s}, p.shifts[i:]), span: p.span + s.span}
}

// compareLists compares two lists element by element.
func compareLists[T any](a, b []T, compare func(x, y T) int) int {
	for i := range min(len(a), len(b)) {
		if c := compare(a[i], b[i]); c != 0 {
			return c
		}
	}
	return cmp.Compare(len(a), len(b))
}

func comparePieces(a, b api.DutyPiece) int {
	return cmp.Or(cmp.Compare(a.Car, b.Car), cmp.Compare(a.First, b.First), cmp.Compare(a.Last, b.Last))
}

func compareShifts(a, b shift) int {
	p, q := a.duty.Pieces, b.duty.Pieces
	return cmp.Or(comparePieces(p[0], q[0]), cmp.Compare(len(p), len(q)), compareLists(p, q, comparePieces))
}

// comparePlans returns which of two plans for the same tasks is better.
func comparePlans(a, b plan) int {
	return cmp.Or(cmp.Compare(len(a.shifts), len(b.shifts)), cmp.Compare(a.span, b.span), compareLists(a.shifts, b.shifts, compareShifts))
}

// duties returns the plan of duties, if there is one. Whatever duty has a task, the rest of the best plan is the best one for the other tasks: to add the same duty to two plans does not change which one comes first.
func (r roster) duties() ([]api.Duty, bool) {
	shifts := r.shifts()
	best := map[int]plan{0: {}}
	for set := range 1 << len(r.tasks) {
		if set == 0 {
			continue
		}
		if p, ok := bestOf(set, shifts[bits.TrailingZeros(uint(set))], best); ok {
			best[set] = p
		}
	}
	whole, ok := best[1<<len(r.tasks)-1]
	var l []api.Duty
	for _, s := range whole.shifts {
		l = append(l, s.duty)
	}
	return l, ok
}

// bestOf returns the best plan for a set of tasks with one of some duties, if there is one; the best plans of lesser sets are known.
func bestOf(set int, shifts []shift, best map[int]plan) (plan, bool) {
	var least plan
	found := false
search:
	for _, s := range shifts {
		if s.set&^set != 0 {
			continue search
		}
		rest, ok := best[set&^s.set]
		if !ok || found && (len(rest.shifts)+1 > len(least.shifts) || len(rest.shifts)+1 == len(least.shifts) && rest.span+s.span > least.span) {
			continue search
		}
		if p := rest.with(s); !found || comparePlans(p, least) < 0 {
			found, least = true, p
		}
	}
	return least, found
}
