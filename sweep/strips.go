package sweep

import (
	"iter"

	"tramline/api"
	"tramline/shape"
)

// swept is a strip with what a car sweeps there: its segment, and the bends at its ends.
type swept struct {
	api.Strip
	from  api.Spot
	to    api.Spot
	begin int // its place on the rail
	end   int
	bends []api.Spot
	low   api.Spot // the corners of the box around it
	high  api.Spot
}

// strips yields the strips of a rail of a valid plan.
func strips(p api.Plan, rail int) iter.Seq[swept] {
	line := shape.Line(p, rail)
	return func(yield func(swept) bool) {
		begin := 0
		for i := 1; i < len(line); i++ {
			a, b := line[i-1], line[i]
			length, _ := shape.Distance(a, b)
			s := swept{Strip: api.Strip{Rail: rail, Segment: i - 1}, from: a, to: b, begin: begin, end: begin + length}
			s.low = api.Spot{X: min(a.X, b.X), Y: min(a.Y, b.Y)}
			s.high = api.Spot{X: max(a.X, b.X), Y: max(a.Y, b.Y)}
			if isBend(line, i-1) {
				s.bends = append(s.bends, a)
			}
			if isBend(line, i) {
				s.bends = append(s.bends, b)
			}
			if !yield(s) {
				return
			}
			begin = s.end
		}
	}
}

// isBend reports whether a line does not go straight on at one of its spots.
func isBend(line []api.Spot, i int) bool {
	if i == 0 || i == len(line)-1 {
		return false
	}
	a, b, c := line[i-1], line[i], line[i+1]
	forward := (b.X-a.X)*(c.X-b.X) + (b.Y-a.Y)*(c.Y-b.Y)
	return side(a, b, c) != 0 || forward < 0
}

// along returns all strips of a rail.
func along(p api.Plan, rail int) []swept {
	var l []swept
	for s := range strips(p, rail) {
		l = append(l, s)
	}
	return l
}

// find returns a strip, and whether it exists.
func find(p api.Plan, s api.Strip) (swept, bool) {
	if !hasRail(p, s.Rail) || s.Segment < 0 || s.Segment > len(p.Rails[s.Rail].Shape) {
		return swept{}, false
	}
	return along(p, s.Rail)[s.Segment], true
}

func hasRail(p api.Plan, rail int) bool { return rail >= 0 && rail < len(p.Rails) }

// touched returns the strips that a car touches, each once, and whether its parts of rails are right.
func touched(p api.Plan, parts []api.Cover) ([]swept, bool) {
	if len(parts) > mostParts {
		return nil, false
	}
	seen := make(map[api.Strip]bool)
	var l []swept
	for _, part := range parts {
		if !hasRail(p, part.Rail) || part.From < 0 || part.From >= part.To {
			return nil, false
		}
		rail := along(p, part.Rail)
		if part.To > rail[len(rail)-1].end {
			return nil, false
		}
		for _, s := range rail {
			if part.From < s.end && s.begin < part.To && !seen[s.Strip] {
				seen[s.Strip] = true
				l = append(l, s)
			}
		}
	}
	return l, true
}
