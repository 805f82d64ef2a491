package motion

import "tramline/api"

// engine is a train on rails in one of their states.
type engine struct {
	api.Train
	adhesion int
	kinds    [forceKinds]func(instant) int
}

func newEngine(t api.Train, state int) *engine {
	e := &engine{Train: t, adhesion: t.Grip[state] * t.Mass * 981 / 100000}
	e.kinds = [forceKinds]func(instant) int{pull: e.pull, brake: e.brake, drag: e.drag, hill: e.hill}
	return e
}

// instant is what the forces depend on.
type instant struct {
	speed  int
	demand int
	slope  int
}

func (e *engine) pull(i instant) int {
	if i.demand <= 0 {
		return 0
	}
	f := min(e.Effort*i.demand/4, e.adhesion)
	if i.speed > 0 {
		f = min(f, 1000*e.Power/i.speed)
	}
	return f
}

func (e *engine) brake(i instant) int {
	if i.demand >= 0 {
		return 0
	}
	return min(e.Brake*-i.demand/4, e.adhesion)
}

func (e *engine) drag(i instant) int { return e.Resist + e.Rise*i.speed/1000 }

// hill relies on Go's division, which is toward zero.
func (e *engine) hill(i instant) int { return e.Mass * i.slope * 981 / 100000 }

// The forces by their indexes.
const (
	pull = iota
	brake
	drag
	hill
	forceKinds
)

// forces are the forces of a step, in newtons.
type forces [forceKinds]int

func (e *engine) forces(i instant) forces {
	var f forces
	for k, force := range e.kinds {
		f[k] = force(i)
	}
	return f
}

func (f forces) sum() int { return f[pull] - f[brake] - f[drag] - f[hill] }

// after returns the momentum that a force makes of one, in a step: a train never rolls back.
func after(momentum, force int) int { return max(0, momentum+100*force) }

// possible reports whether a step can lead to a momentum.
func (e *engine) possible(momentum int) bool { return momentum <= api.MotionSpeed*e.Mass }

// step is a step that has been made: its forces, and the momentum before and after it.
type step struct {
	forces
	before int
	next   int
}

func (e *engine) step(momentum, demand, slope int) step {
	f := e.forces(instant{speed: momentum / e.Mass, demand: demand, slope: slope})
	return step{forces: f, before: momentum, next: after(momentum, f.sum())}
}

func (s step) ledger() api.MotionLedger {
	l := api.MotionLedger{
		Pull:  200 * s.forces[pull] * s.next,
		Brake: 200 * s.forces[brake] * s.next,
		Drag:  200 * s.forces[drag] * s.next,
		Hill:  200 * s.forces[hill] * s.next,
	}
	if f := s.sum(); s.next == s.before+100*f {
		l.Round = 10000 * f * f
	} else {
		l.Hold = s.before * s.before
	}
	return l
}

// add returns the sum of ledgers.
func add(ledgers ...api.MotionLedger) api.MotionLedger {
	var sum api.MotionLedger
	for _, l := range ledgers {
		sum.Pull += l.Pull
		sum.Brake += l.Brake
		sum.Drag += l.Drag
		sum.Hill += l.Hill
		sum.Round += l.Round
		sum.Hold += l.Hold
	}
	return sum
}

// powers returns what a step takes and gives back.
func (e *engine) powers(s step) (int, int) {
	unit := 1000 * e.Mass
	took := (s.forces[pull]*s.next + unit - 1) / unit
	gave := s.forces[brake] * s.next * e.Back / (100 * unit)
	return took, gave
}
