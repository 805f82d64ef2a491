package sample

import (
	"tramline/api"
	"tramline/motion"
	"tramline/track"
)

// Street returns a plan of one long rail, about 31 kilometers, between two ends.
func Street() api.Plan {
	var line []api.Spot
	for i := range 32 {
		line = append(line, api.Spot{X: -9000000 + 600000*i, Y: i % 2 * 800000})
	}
	p := Lines(line)
	p.Rails[0].Limit = 20000
	return p
}

// Tram returns a train that goes slowly, so that it stops after a few steps and runs are found fast.
func Tram() api.Train {
	return api.Train{Mass: 30000, Length: 20000, Speed: 1000, Effort: 60000, Brake: 60000, Power: 2000000, Resist: 300, Rise: 100, Back: 50, Grip: []int{1000}}
}

// Course returns a course on a way with some running times in seconds; the last result is false if there is none. There is one dwell more than running times.
func Course(p api.Plan, way []api.Move, t api.Train, runs, dwells []int) (api.Course, bool) {
	c := api.Course{Way: way, Stops: []int{t.Length}, Dwells: dwells}
	length, _ := track.WayLength(p, way)
	for _, seconds := range runs {
		low := c.Stops[len(c.Stops)-1] + 1
		high := min(length, low+seconds*t.Speed+2*api.MotionNear) // it would take longer, even at full speed
		for low < high {
			middle := (low + high) / 2
			if last(p, c, t, middle) < seconds {
				low = middle + 1
			} else {
				high = middle
			}
		}
		if last(p, c, t, low) != seconds {
			return api.Course{}, false
		}
		c.Stops = append(c.Stops, low)
	}
	return c, true
}

// last returns the seconds of the last leg of a course that is led on to a stop.
func last(p api.Plan, c api.Course, t api.Train, stop int) int {
	millis, err := motion.Run(p, c.Way, t, 0, append(c.Stops[:len(c.Stops):len(c.Stops)], stop))
	if err != api.OK {
		return -1
	}
	return max(1, (millis[len(millis)-1]+999)/1000)
}

// Line returns a line on the rail of Street with some running times and dwells in both directions.
func Line(out, outDwells, home, homeDwells []int, layover int) (api.Line, bool) {
	t := Tram()
	there, ok := Course(Street(), []api.Move{{}}, t, out, outDwells)
	if !ok {
		return api.Line{}, false
	}
	back, ok := Course(Street(), []api.Move{{Back: true}}, t, home, homeDwells)
	return api.Line{Out: there, Home: back, Train: t, Layover: layover}, ok
}

// ExampleLine returns the line of the document's examples of layer 7, on the rail of Street.
func ExampleLine() (api.Line, bool) {
	return Line([]int{60, 40}, []int{0, 20, 0}, []int{50, 60}, []int{0, 10, 0}, 30)
}
