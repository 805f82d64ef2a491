package motion

import "tramline/api"

const (
	leastMass  = 1000
	mostResist = 100000
	mostRise   = 10000
	mostBack   = 100
	mostGrip   = 1000
	mostSlope  = 120
	mostWay    = 10000000000000000
)

// within reports whether a number is from a least one to a greatest one.
func within(x, least, most int) bool { return x >= least && x <= most }

// right reports whether a train is as defined.
func right(t api.Train) bool {
	return fits(t) && within(t.Back, 0, mostBack) && within(t.Speed, 1, api.MotionSpeed) && gripsRight(t.Grip)
}

// fits reports whether those numbers of a train are in range that coupling adds up.
func fits(t api.Train) bool {
	return within(t.Mass, leastMass, api.MotionMass) && within(t.Length, 1, api.MotionLength) &&
		within(t.Effort, 1, api.MotionForce) && within(t.Brake, 1, api.MotionForce) && within(t.Power, 1, api.MotionPower) &&
		within(t.Resist, 0, mostResist) && within(t.Rise, 0, mostRise)
}

func gripsRight(grips []int) bool {
	for _, g := range grips {
		if !within(g, 1, mostGrip) {
			return false
		}
	}
	return within(len(grips), 1, api.MotionStates)
}

// couple couples two trains with as many Grips.
func couple(a, b api.Train) api.Train {
	c := api.Train{
		Mass:   a.Mass + b.Mass,
		Length: a.Length + b.Length,
		Speed:  min(a.Speed, b.Speed),
		Effort: a.Effort + b.Effort,
		Brake:  a.Brake + b.Brake,
		Power:  a.Power + b.Power,
		Resist: a.Resist + b.Resist,
		Rise:   a.Rise + b.Rise,
		Back:   min(a.Back, b.Back),
	}
	for i, g := range a.Grip {
		c.Grip = append(c.Grip, min(g, b.Grip[i]))
	}
	return c
}

// stateRight reports whether a state of motion of a train is as defined.
func stateRight(t api.Train, x api.MotionState) bool {
	return within(x.Momentum, 0, api.MotionSpeed*t.Mass) && within(x.Way, 0, mostWay)
}

// placeRight reports whether a slope and a state of the rails are as defined for a train.
func placeRight(t api.Train, slope, state int) bool {
	return within(slope, -mostSlope, mostSlope) && within(state, 0, len(t.Grip)-1)
}
