package sweep_test

import (
	"math"
	"math/big"
	"slices"
	"testing"

	"tramline/api"
	"tramline/sample"
	"tramline/sweep"
	"tramline/track"
)

var (
	slim = api.Profile{Half: 100, Swing: 50}
	wide = api.Profile{Half: 200}
)

func strip(rail, segment int) api.Strip { return api.Strip{Rail: rail, Segment: segment} }

// ends returns the two spots of a strip.
func ends(t *testing.T, p api.Plan, s api.Strip) (api.Spot, api.Spot) {
	t.Helper()
	l, e := track.Line(p, s.Rail)
	if e != api.OK {
		t.Fatal(s, e)
	}
	return l[s.Segment], l[s.Segment+1]
}

func all(p api.Plan, rail int) []api.Strip {
	var l []api.Strip
	for i := range len(p.Rails[rail].Shape) + 1 {
		l = append(l, strip(rail, i))
	}
	return l
}

func rat(n int) *big.Rat { return new(big.Rat).SetInt64(int64(n)) }

// spotSquare returns the square of the distance of a spot and a segment, by moving along it as far as is best.
func spotSquare(s, a, b api.Spot) *big.Rat {
	ux, uy := rat(b.X-a.X), rat(b.Y-a.Y)
	dot := func(x, y *big.Rat) *big.Rat {
		z := new(big.Rat).Mul(ux, x)
		return z.Add(z, new(big.Rat).Mul(uy, y))
	}
	share := new(big.Rat).Quo(dot(rat(s.X-a.X), rat(s.Y-a.Y)), dot(ux, uy))
	if share.Sign() < 0 {
		share = rat(0)
	}
	if share.Cmp(rat(1)) > 0 {
		share = rat(1)
	}
	dx := new(big.Rat).Sub(rat(s.X-a.X), new(big.Rat).Mul(share, ux))
	dy := new(big.Rat).Sub(rat(s.Y-a.Y), new(big.Rat).Mul(share, uy))
	return dx.Add(dx.Mul(dx, dx), dy.Mul(dy, dy))
}

// meet reports whether two segments that are not parallel have a point in common, by computing it.
func meet(a, b, c, d api.Spot) bool {
	det := (b.X-a.X)*(d.Y-c.Y) - (b.Y-a.Y)*(d.X-c.X)
	if det == 0 {
		return false
	}
	first := big.NewRat(int64((c.X-a.X)*(d.Y-c.Y)-(c.Y-a.Y)*(d.X-c.X)), int64(det))
	second := big.NewRat(int64((c.X-a.X)*(b.Y-a.Y)-(c.Y-a.Y)*(b.X-a.X)), int64(det))
	for _, x := range []*big.Rat{first, second} {
		if x.Sign() < 0 || x.Cmp(rat(1)) > 0 {
			return false
		}
	}
	return true
}

// square returns the square of the distance of two strips.
func square(t *testing.T, p api.Plan, x, y api.Strip) *big.Rat {
	a, b := ends(t, p, x)
	c, d := ends(t, p, y)
	if meet(a, b, c, d) {
		return rat(0)
	}
	least := spotSquare(a, c, d)
	for _, s := range []*big.Rat{spotSquare(b, c, d), spotSquare(c, a, b), spotSquare(d, a, b)} {
		if s.Cmp(least) < 0 {
			least = s
		}
	}
	return least
}

func within(square *big.Rat, distance int) bool { return square.Cmp(rat(distance*distance)) <= 0 }

// bends returns the ends of a strip at which its line bends.
func bends(t *testing.T, p api.Plan, s api.Strip) []api.Spot {
	t.Helper()
	line, _ := track.Line(p, s.Rail)
	var l []api.Spot
	for _, i := range []int{s.Segment, s.Segment + 1} {
		if i == 0 || i == len(line)-1 {
			continue
		}
		ux, uy := line[i].X-line[i-1].X, line[i].Y-line[i-1].Y
		vx, vy := line[i+1].X-line[i].X, line[i+1].Y-line[i].Y
		if ux*vy != uy*vx || ux*vx < 0 || uy*vy < 0 {
			l = append(l, line[i])
		}
	}
	return l
}

// foul says whether two strips are foul, as the document defines it.
func foul(t *testing.T, p api.Plan, a api.Strip, x api.Profile, b api.Strip, y api.Profile) bool {
	if within(square(t, p, a, b), x.Half+y.Half) {
		return true
	}
	a0, a1 := ends(t, p, a)
	b0, b1 := ends(t, p, b)
	for _, s := range bends(t, p, a) {
		if within(spotSquare(s, b0, b1), x.Half+x.Swing+y.Half) {
			return true
		}
		for _, u := range bends(t, p, b) {
			reach := x.Half + x.Swing + y.Half + y.Swing
			if (s.X-u.X)*(s.X-u.X)+(s.Y-u.Y)*(s.Y-u.Y) <= reach*reach {
				return true
			}
		}
	}
	for _, u := range bends(t, p, b) {
		if within(spotSquare(u, a0, a1), x.Half+y.Half+y.Swing) {
			return true
		}
	}
	return false
}

// plans returns small plans with many touching lines, and others with great distances.
func plans(t *testing.T) []api.Plan {
	t.Helper()
	var l []api.Plan
	for seed := range 40 {
		size := []int{4, 6, 30, 900, 9000, 700000}[seed%6]
		p := sample.Plan(sample.New(seed), 1+seed%5, size)
		if e := track.Check(p); e != api.OK {
			t.Fatal(seed, e)
		}
		l = append(l, p)
	}
	return l
}

func profile(r *sample.Rand, size int) api.Profile {
	if size == 0 {
		return api.Profile{Half: r.From(1, 2), Swing: r.From(0, 2)}
	}
	return api.Profile{Half: r.From(1, api.SweepHalf), Swing: r.From(0, api.SweepSwing)}
}

// TestStrips is for P2.1: places are, one after the other, the whole rail.
func TestStrips(t *testing.T) {
	p := sample.Example()
	if n, e := sweep.Strips(p, 2); n != 2 || e != api.OK {
		t.Error(n, e)
	}
	if x, y, e := sweep.Place(p, strip(2, 1)); x != 600 || y != 1240 || e != api.OK {
		t.Error(x, y, e)
	}
	for i, p := range plans(t) {
		for rail := range p.Rails {
			n, e := sweep.Strips(p, rail)
			if e != api.OK || n != len(p.Rails[rail].Shape)+1 {
				t.Fatal(i, rail, n, e)
			}
			last := 0
			for k := range n {
				x, y, e := sweep.Place(p, strip(rail, k))
				if e != api.OK || x != last || y <= x {
					t.Fatal(i, rail, k, x, y, e)
				}
				last = y
			}
			if length, _ := track.Length(p, rail); last != length {
				t.Fatal(i, rail, last, length)
			}
		}
	}
	for _, s := range []api.Strip{strip(-1, 0), strip(3, 0), strip(0, -1), strip(0, 1), strip(2, 2), strip(math.MaxInt, math.MinInt)} {
		if x, y, e := sweep.Place(p, s); x != 0 || y != 0 || e != api.ErrArg {
			t.Error(s, x, y, e)
		}
	}
	for _, rail := range []int{-1, 3} {
		if n, e := sweep.Strips(p, rail); n != 0 || e != api.ErrArg {
			t.Error(rail, n, e)
		}
	}
}

// TestGap is for P2.2: exact distances, in both directions.
func TestGap(t *testing.T) {
	p := sample.Example()
	for _, x := range []struct {
		a, b api.Strip
		want int
	}{{strip(0, 0), strip(2, 1), 600}, {strip(1, 0), strip(2, 0), 0}, {strip(0, 0), strip(0, 0), 0}} {
		if n, e := sweep.Gap(p, x.a, x.b); n != x.want || e != api.OK {
			t.Error(x, n, e)
		}
	}
	for i, p := range plans(t) {
		for a := range p.Rails {
			for b := range p.Rails {
				for _, x := range all(p, a) {
					for _, y := range all(p, b) {
						checkGap(t, i, p, x, y)
					}
				}
			}
		}
	}
}

func checkGap(t *testing.T, i int, p api.Plan, x, y api.Strip) {
	t.Helper()
	s := square(t, p, x, y)
	gap, e := sweep.Gap(p, x, y)
	if e != api.OK || gap < 0 || gap > api.SweepGap || rat(gap*gap).Cmp(s) > 0 || gap < api.SweepGap && rat((gap+1)*(gap+1)).Cmp(s) <= 0 {
		t.Fatal(i, x, y, gap, s, e)
	}
	if back, _ := sweep.Gap(p, y, x); back != gap {
		t.Fatal(i, x, y, gap, back)
	}
	for _, d := range []int{0, 1, gap, gap + 1, 5000, 9999, 10000} {
		is, e := sweep.Within(p, x, y, d)
		if e != api.OK || is != within(s, d) {
			t.Fatal(i, x, y, d, is, e)
		}
	}
}

// TestExactBorders is for P2.2: distances that differ from a number by less than floats can tell.
func TestExactBorders(t *testing.T) {
	// A segment from 0, 0 to 999999, 1, and spots beside its far end.
	p := sample.Lines([]api.Spot{{}, {X: 999999, Y: 1}}, []api.Spot{{X: 500000, Y: 10000}, {X: 499999, Y: 12000}}, []api.Spot{{X: 500000, Y: 10001}, {X: 499999, Y: 12000}})
	if is, e := sweep.Within(p, strip(0, 0), strip(1, 0), 9999); is || e != api.OK { // 9999.4999..
		t.Error(is, e)
	}
	for x, want := range map[int]bool{1: true, 2: false} { // 10000.49..
		if is, e := sweep.Within(p, strip(0, 0), strip(x, 0), 10000); is != want || e != api.OK {
			t.Error(x, is, e)
		}
	}
	// Parallel lines that are not along an axis: the distance is exactly 5 times 700, and a little more.
	q := sample.Lines([]api.Spot{{}, {X: 4000, Y: 3000}}, []api.Spot{{X: -2100, Y: 2800}, {X: 1900, Y: 5800}}, []api.Spot{{X: -2101, Y: 2800}, {X: 1900, Y: 5801}})
	if n, e := sweep.Gap(q, strip(0, 0), strip(1, 0)); n != 3500 || e != api.OK {
		t.Error(n, e)
	}
	if is, _ := sweep.Within(q, strip(0, 0), strip(1, 0), 3500); !is {
		t.Error("3500")
	}
	if is, _ := sweep.Within(q, strip(0, 0), strip(1, 0), 3499); is {
		t.Error("3499")
	}
	if is, _ := sweep.Within(q, strip(0, 0), strip(2, 0), 3500); is {
		t.Error("a little more than 3500")
	}
	for _, d := range []int{-1, 10001, math.MaxInt, math.MinInt} {
		if is, e := sweep.Within(q, strip(0, 0), strip(1, 0), d); is || e != api.ErrArg {
			t.Error(d, is, e)
		}
	}
	for _, s := range []api.Strip{strip(0, 1), strip(3, 0), strip(-1, -1)} {
		for _, x := range [][2]api.Strip{{s, strip(0, 0)}, {strip(0, 0), s}} {
			_, e0 := sweep.Within(q, x[0], x[1], 1)
			_, e1 := sweep.Gap(q, x[0], x[1])
			_, e2 := sweep.Foul(q, x[0], slim, x[1], slim)
			if e0 != api.ErrArg || e1 != api.ErrArg || e2 != api.ErrArg {
				t.Error(x, e0, e1, e2)
			}
		}
	}
}

// TestFoul is for P2.3: strips, with the examples and against the definition.
func TestFoul(t *testing.T) {
	p := sample.Example()
	for _, x := range []struct {
		x, y api.Profile
		want bool
	}{
		{slim, slim, false},
		{api.Profile{Half: 300}, api.Profile{Half: 300}, true},
		{api.Profile{Half: 299}, api.Profile{Half: 300}, false},
		{api.Profile{Half: 275, Swing: 50}, api.Profile{Half: 275, Swing: 50}, true},
		{api.Profile{Half: 275, Swing: 50}, api.Profile{Half: 275}, false}, // the bend is on the second strip
		{api.Profile{Half: 275}, api.Profile{Half: 275, Swing: 50}, true},
	} {
		if is, e := sweep.Foul(p, strip(0, 0), x.x, strip(2, 1), x.y); is != x.want || e != api.OK {
			t.Error(x, is, e)
		}
	}
	for i, p := range plans(t) {
		r := sample.New(i)
		for range 100 {
			a := strip(r.Below(len(p.Rails)), 0)
			b := strip(r.Below(len(p.Rails)), 0)
			a.Segment, b.Segment = r.Below(len(p.Rails[a.Rail].Shape)+1), r.Below(len(p.Rails[b.Rail].Shape)+1)
			x, y := profile(r, i%6%3), profile(r, i%6%3)
			is, e := sweep.Foul(p, a, x, b, y)
			if e != api.OK || is != foul(t, p, a, x, b, y) {
				t.Fatal(i, a, x, b, y, is, e)
			}
			if back, _ := sweep.Foul(p, b, y, a, x); back != is {
				t.Fatal(i, a, x, b, y, "exchanged")
			}
			x.Half, y.Swing = min(x.Half+1, api.SweepHalf), min(y.Swing+1, api.SweepSwing)
			if more, _ := sweep.Foul(p, a, x, b, y); is && !more {
				t.Fatal(i, a, x, b, y, "wider")
			}
		}
	}
}

// TestBends is for P2.3: what is a bend, and that two bends reach farther than one.
func TestBends(t *testing.T) {
	half := api.Profile{Half: 100, Swing: 100}
	for _, c := range []struct {
		name  string
		first []api.Spot
		other []api.Spot
		want  bool
	}{
		{"straight on", []api.Spot{{}, {X: 500}, {X: 1000}}, []api.Spot{{X: 500, Y: 250}, {X: 500, Y: 900}}, false},
		{"a bend", []api.Spot{{}, {X: 500}, {X: 1000, Y: -1}}, []api.Spot{{X: 500, Y: 300}, {X: 500, Y: 900}}, true},
		{"a bend, farther", []api.Spot{{}, {X: 500}, {X: 1000, Y: -1}}, []api.Spot{{X: 500, Y: 301}, {X: 500, Y: 900}}, false},
		{"back", []api.Spot{{}, {X: 500}, {X: 100}}, []api.Spot{{X: 800}, {X: 900}}, true},
		{"back along y", []api.Spot{{X: 7, Y: 50}, {X: 7, Y: 550}, {X: 7, Y: 300}}, []api.Spot{{X: 7, Y: 850}, {X: 7, Y: 900}}, true},
		{"straight on along y", []api.Spot{{X: 7, Y: 50}, {X: 7, Y: 550}, {X: 7, Y: 600}}, []api.Spot{{X: -243, Y: 550}, {X: -900, Y: 550}}, false},
		{"straight on across", []api.Spot{{X: 900, Y: -900}, {X: 500, Y: -500}, {X: 400, Y: -400}}, []api.Spot{{X: 700, Y: -300}, {X: 900, Y: -100}}, false},
		{"back across", []api.Spot{{X: 900, Y: -900}, {X: 500, Y: -500}, {X: 600, Y: -600}}, []api.Spot{{X: 300, Y: -300}, {X: 100, Y: -100}}, true},
		{"bends on both", []api.Spot{{}, {X: 500}, {X: 1000, Y: -1}}, []api.Spot{{X: 100, Y: 900}, {X: 500, Y: 400}, {X: 900, Y: 900}}, true},
		{"bends on both, farther", []api.Spot{{}, {X: 500}, {X: 1000, Y: -1}}, []api.Spot{{X: 100, Y: 900}, {X: 500, Y: 401}, {X: 900, Y: 900}}, false},
		{"a node is no bend", []api.Spot{{}, {X: 500}}, []api.Spot{{X: 800}, {X: 900}}, false},
	} {
		p := sample.Lines(c.first, c.other)
		if is, e := sweep.Foul(p, strip(0, 0), half, strip(1, 0), half); is != c.want || e != api.OK {
			t.Error(c.name, is, e)
		}
		if is, e := sweep.Foul(p, strip(1, 0), half, strip(0, 0), half); is != c.want || e != api.OK {
			t.Error(c.name, "exchanged", is, e)
		}
	}
}

// TestProfiles is for P2.3 and P2.5: profiles out of range.
func TestProfiles(t *testing.T) {
	p := sample.Example()
	for x, want := range map[api.Profile]api.Errno{
		{Half: 1}: api.OK, {Half: 2000, Swing: 1500}: api.OK,
		{}: api.ErrArg, {Half: -1}: api.ErrArg, {Half: 2001}: api.ErrArg, {Half: 1, Swing: -1}: api.ErrArg, {Half: 1, Swing: 1501}: api.ErrArg, {Half: math.MaxInt, Swing: math.MinInt}: api.ErrArg,
	} {
		_, e0 := sweep.Foul(p, strip(0, 0), x, strip(1, 0), slim)
		_, e1 := sweep.Foul(p, strip(0, 0), slim, strip(1, 0), x)
		_, e2 := sweep.Fouls(p, []api.Profile{slim, x})
		_, e3 := sweep.Zone(p, 0, x, 1, slim)
		_, e4 := sweep.Zone(p, 0, slim, 1, x)
		_, e5 := sweep.Clear(p, nil, x, nil, slim)
		_, e6 := sweep.Clear(p, nil, slim, nil, x)
		if l := []api.Errno{e0, e1, e2, e3, e4, e5, e6}; slices.ContainsFunc(l, func(e api.Errno) bool { return e != want }) {
			t.Error(x, l)
		}
	}
	for n, want := range map[int]api.Errno{0: api.ErrArg, 1: api.OK, 6: api.OK, 7: api.ErrArg} {
		if l, e := sweep.Fouls(p, slices.Repeat([]api.Profile{slim}, n)); e != want || e != api.OK && len(l) > 0 {
			t.Error(n, e)
		}
	}
}
