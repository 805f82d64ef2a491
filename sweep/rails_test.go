package sweep_test

import (
	"math"
	"slices"
	"testing"

	"tramline/api"
	"tramline/sample"
	"tramline/sweep"
	"tramline/track"
)

// railsFoul says whether two rails are foul, strip by strip.
func railsFoul(t *testing.T, p api.Plan, a int, x api.Profile, b int, y api.Profile) bool {
	for _, s := range all(p, a) {
		for _, u := range all(p, b) {
			if foul(t, p, s, x, u, y) {
				return true
			}
		}
	}
	return false
}

// TestFouls is for P2.3: pairs of rails, their order, and that wider profiles foul more.
func TestFouls(t *testing.T) {
	if l, e := sweep.Fouls(sample.Example(), []api.Profile{wide}); e != api.OK || !slices.Equal(l, []api.Foul{{}, {RailB: 1}, {RailB: 2}, {RailA: 1, RailB: 1}, {RailA: 1, RailB: 2}, {RailA: 2, RailB: 2}}) {
		t.Error(l, e)
	}
	for i, p := range plans(t) {
		r := sample.New(i)
		var profiles []api.Profile
		for range 1 + i%3 {
			profiles = append(profiles, profile(r, i%6%3))
		}
		var want []api.Foul
		for a := range p.Rails {
			for x := range profiles {
				for b := a; b < len(p.Rails); b++ {
					for y := range profiles {
						if (b > a || y >= x) && railsFoul(t, p, a, profiles[x], b, profiles[y]) {
							want = append(want, api.Foul{RailA: a, ProfileA: x, RailB: b, ProfileB: y})
						}
					}
				}
			}
		}
		l, e := sweep.Fouls(p, profiles)
		if e != api.OK || !slices.Equal(l, want) {
			t.Fatal(i, profiles, l, want, e)
		}
		for k := range profiles {
			profiles[k].Half = min(profiles[k].Half+100, api.SweepHalf)
		}
		more, _ := sweep.Fouls(p, profiles)
		for _, f := range l {
			if !slices.Contains(more, f) {
				t.Fatal(i, f, "is not foul for wider profiles")
			}
		}
	}
}

// TestFoulsBorders is for P2.3: rails that are just foul, and rails that are just not, for each reason.
func TestFoulsBorders(t *testing.T) {
	side := []api.Spot{{}, {X: 500}}
	bend := []api.Spot{{}, {X: 500}, {X: 1000, Y: -1000}}
	tip := []api.Spot{{X: 100, Y: 9000}, {X: 500, Y: 400}, {X: 900, Y: 9000}}
	for _, c := range []struct {
		name        string
		first, last []api.Spot
		x, y        api.Profile
	}{
		{"sides", side, []api.Spot{{X: 100, Y: 400}, {X: 400, Y: 400}}, api.Profile{Half: 150}, api.Profile{Half: 250}},
		{"sides that are near", side, []api.Spot{{X: 100, Y: 2}, {X: 400, Y: 2}}, api.Profile{Half: 1}, api.Profile{Half: 1}},
		{"the first one's bend", bend, []api.Spot{{X: 500, Y: 400}, {X: 500, Y: 900}}, api.Profile{Half: 100, Swing: 200}, api.Profile{Half: 100}},
		{"the second one's bend", side, tip, api.Profile{Half: 100}, api.Profile{Half: 100, Swing: 200}},
		{"both bends", bend, tip, api.Profile{Half: 100, Swing: 50}, api.Profile{Half: 150, Swing: 100}},
	} {
		p := sample.Lines(c.first, c.last)
		foul := func(x, y api.Profile) bool {
			l, e := sweep.Fouls(p, []api.Profile{x, y})
			if e != api.OK {
				t.Error(c.name, e)
			}
			return slices.Contains(l, api.Foul{RailA: 0, ProfileA: 0, RailB: 1, ProfileB: 1})
		}
		if !foul(c.x, c.y) {
			t.Error(c.name, "they are foul")
		}
		less := p // a millimeter farther away
		less.Nodes = slices.Clone(p.Nodes)
		less.Rails = slices.Clone(p.Rails)
		for _, i := range []int{2, 3} {
			less.Nodes[i].Spot.Y++
		}
		less.Rails[1].Shape = slices.Clone(p.Rails[1].Shape)
		for i := range less.Rails[1].Shape {
			less.Rails[1].Shape[i].Y++
		}
		p = less
		if foul(c.x, c.y) {
			t.Error(c.name, "they are not foul any more")
		}
	}
}

// TestWitness is for P2.4: the least gap, and the first strips with it.
func TestWitness(t *testing.T) {
	if a, b, n, e := sweep.Witness(sample.Example(), 0, 2); a != strip(0, 0) || b != strip(2, 0) || n != 0 || e != api.OK {
		t.Error(a, b, n, e)
	}
	for i, p := range plans(t) {
		for a := range p.Rails {
			for b := range p.Rails {
				best, first, second := math.MaxInt, api.Strip{}, api.Strip{}
				for _, x := range all(p, a) {
					for _, y := range all(p, b) {
						if n, _ := sweep.Gap(p, x, y); n < best {
							best, first, second = n, x, y
						}
					}
				}
				if x, y, n, e := sweep.Witness(p, a, b); x != first || y != second || n != best || e != api.OK {
					t.Fatal(i, a, b, x, y, n, e)
				}
			}
		}
	}
	// Far away, all gaps are the greatest one that is measured: the first strips are meant.
	p := sample.Lines([]api.Spot{{}, {X: 10}, {X: 20}}, []api.Spot{{Y: 9000}, {X: 10, Y: 8000}, {X: 20, Y: 7000}})
	if a, b, n, e := sweep.Witness(p, 0, 1); a != strip(0, 0) || b != strip(1, 0) || n != api.SweepGap || e != api.OK {
		t.Error(a, b, n, e)
	}
	for _, x := range [][2]int{{-1, 0}, {0, 2}, {math.MaxInt, math.MinInt}} {
		if a, b, n, e := sweep.Witness(p, x[0], x[1]); a != (api.Strip{}) || b != (api.Strip{}) || n != 0 || e != api.ErrArg {
			t.Error(x, a, b, n, e)
		}
	}
}

// TestZone is for P2.5: zones, against strips; and that a car outside of one is clear.
func TestZone(t *testing.T) {
	if l, e := sweep.Zone(sample.Example(), 0, slim, 2, slim); e != api.OK || !slices.Equal(l, []api.Cover{{To: 1000}}) {
		t.Error(l, e)
	}
	for i, p := range plans(t) {
		r := sample.New(i)
		for range 12 {
			a, b := r.Below(len(p.Rails)), r.Below(len(p.Rails))
			x, y := profile(r, i%6%3), profile(r, i%6%3)
			zone, e := sweep.Zone(p, a, x, b, y)
			length, _ := track.Length(p, a)
			if e != api.OK {
				t.Fatal(i, e)
			}
			far := true // strips in the zone, and places between its parts
			for k, c := range zone {
				if c.Rail != a || c.From >= c.To || c.To > length || k > 0 && zone[k-1].To >= c.From {
					t.Fatal(i, zone)
				}
			}
			for _, s := range all(p, a) {
				from, to, _ := sweep.Place(p, s)
				in := slices.ContainsFunc(zone, func(c api.Cover) bool { return c.From <= from && to <= c.To })
				out := !slices.ContainsFunc(zone, func(c api.Cover) bool { return c.From < to && from < c.To })
				is := false
				for _, u := range all(p, b) {
					is = is || foul(t, p, s, x, u, y)
				}
				if in != is || out == is {
					t.Fatal(i, a, x, b, y, zone, s)
				}
				other, _ := track.Length(p, b)
				if out {
					far, _ = sweep.Clear(p, []api.Cover{{Rail: a, From: from, To: to}}, x, []api.Cover{{Rail: b, To: other}}, y)
				}
				if !far {
					t.Fatal(i, a, b, s, "outside of the zone and not clear")
				}
			}
		}
	}
	for _, x := range [][2]int{{-1, 0}, {0, 3}} {
		if l, e := sweep.Zone(sample.Example(), x[0], slim, x[1], slim); len(l) > 0 || e != api.ErrArg {
			t.Error(x, l, e)
		}
	}
}

// TestZoneParts is for P2.5: strips that are not neighbors stay apart, neighbors are put together.
func TestZoneParts(t *testing.T) {
	p := sample.Lines([]api.Spot{{}, {X: 1000}, {X: 2000}, {X: 9000}, {X: 10000}}, []api.Spot{{X: 500, Y: 50}, {X: 1500, Y: 50}, {X: 1500, Y: 7000}, {X: 9500, Y: 7000}, {X: 9500, Y: 60}})
	if l, e := sweep.Zone(p, 0, slim, 1, slim); e != api.OK || !slices.Equal(l, []api.Cover{{To: 2000}, {From: 9000, To: 10000}}) {
		t.Error(l, e)
	}
	if l, e := sweep.Zone(p, 0, slim, 0, slim); e != api.OK || !slices.Equal(l, []api.Cover{{To: 10000}}) {
		t.Error(l, e)
	}
	if l, e := sweep.Zone(sample.Lines([]api.Spot{{}, {X: 9}}, []api.Spot{{Y: 2000}, {Y: 4000}}), 0, slim, 1, slim); e != api.OK || len(l) != 0 {
		t.Error(l, e)
	}
}

// TestClear is for P2.5: what a car touches, and parts that are not right.
func TestClear(t *testing.T) {
	p := sample.Example()
	part := func(rail, from, to int) []api.Cover { return []api.Cover{{Rail: rail, From: from, To: to}} }
	for _, x := range []struct {
		a, b []api.Cover
		want bool
	}{
		{part(0, 0, 500), part(2, 700, 1240), true},
		{part(0, 0, 500), part(2, 0, 100), false},
		{part(0, 0, 500), part(2, 600, 601), true},
		{part(0, 0, 500), part(2, 599, 601), false},
		{part(0, 0, 500), nil, true},
		{nil, nil, true},
		{part(0, 0, 1), part(0, 999, 1000), false}, // the same strip
		{slices.Repeat(part(0, 0, 1), 100), part(2, 600, 1240), true},
		{part(2, 600, 1240), append(part(1, 999, 1000), part(0, 0, 9)...), false},
	} {
		if is, e := sweep.Clear(p, x.a, slim, x.b, slim); is != x.want || e != api.OK {
			t.Error(x, is, e)
		}
	}
	for _, x := range [][]api.Cover{part(-1, 0, 1), part(3, 0, 1), part(0, -1, 1), part(0, 0, 0), part(0, 5, 4), part(0, 0, 1001), part(0, math.MinInt, math.MaxInt), slices.Repeat(part(0, 0, 1), 101)} {
		if is, e := sweep.Clear(p, x, slim, nil, slim); is || e != api.ErrArg {
			t.Error(x, is, e)
		}
		if is, e := sweep.Clear(p, nil, slim, x, slim); is || e != api.ErrArg {
			t.Error(x, is, e)
		}
	}
}

// parts returns some parts of rails.
func parts(r *sample.Rand, p api.Plan) []api.Cover {
	var l []api.Cover
	for range r.From(0, 3) {
		rail := r.Below(len(p.Rails))
		length, _ := track.Length(p, rail)
		from := r.Below(length)
		l = append(l, api.Cover{Rail: rail, From: from, To: r.From(from+1, length)})
	}
	return l
}

// moved returns a plan with all spots put elsewhere.
func moved(p api.Plan, where func(api.Spot) api.Spot) api.Plan {
	q := api.Plan{Nodes: slices.Clone(p.Nodes), Rails: slices.Clone(p.Rails)}
	for i := range q.Nodes {
		q.Nodes[i].Spot = where(q.Nodes[i].Spot)
	}
	for i := range q.Rails {
		q.Rails[i].Shape = slices.Clone(q.Rails[i].Shape)
		for k := range q.Rails[i].Shape {
			q.Rails[i].Shape[k] = where(q.Rails[i].Shape[k])
		}
	}
	return q
}

// TestConsequences is for P2.6.
func TestConsequences(t *testing.T) {
	for i, p := range plans(t) {
		r := sample.New(i)
		shifted := moved(p, func(s api.Spot) api.Spot { return api.Spot{X: s.X - 9999999, Y: s.Y + 9000000} })
		exchanged := moved(p, func(s api.Spot) api.Spot { return api.Spot{X: s.Y, Y: s.X} })
		profiles := []api.Profile{profile(r, i%6%3), profile(r, i%6%3)}
		l, _ := sweep.Fouls(p, profiles)
		for _, q := range []api.Plan{shifted, exchanged} {
			if k, e := sweep.Fouls(q, profiles); e != api.OK || !slices.Equal(l, k) {
				t.Fatal(i, l, k, e)
			}
		}
		for range 20 {
			a, b := parts(r, p), parts(r, p)
			is, e := sweep.Clear(p, a, profiles[0], b, profiles[1])
			for _, q := range []api.Plan{shifted, exchanged} {
				if too, e := sweep.Clear(q, a, profiles[0], b, profiles[1]); too != is || e != api.OK {
					t.Fatal(i, a, b, too, is, e)
				}
			}
			fouls := false
			for _, x := range a {
				for _, y := range b {
					if x.Rail == y.Rail && x.From < y.To && y.From < x.To && is {
						t.Fatal(i, x, y, "cars on the same millimeter are clear")
					}
					fouls = fouls || railsFoul(t, p, x.Rail, profiles[0], y.Rail, profiles[1])
				}
			}
			if e != api.OK || !is && !fouls {
				t.Fatal(i, a, b, is, e)
			}
		}
	}
}

// TestBrokenPlan is for all promises of the layer: a plan that is not valid.
func TestBrokenPlan(t *testing.T) {
	p := sample.Example()
	p.Nodes[0].Kind = 9
	_, e0 := sweep.Strips(p, 0)
	_, _, e1 := sweep.Place(p, strip(0, 0))
	_, e2 := sweep.Within(p, strip(0, 0), strip(0, 0), 0)
	_, e3 := sweep.Gap(p, strip(0, 0), strip(0, 0))
	_, e4 := sweep.Foul(p, strip(0, 0), slim, strip(0, 0), slim)
	_, e5 := sweep.Fouls(p, []api.Profile{slim})
	_, _, _, e6 := sweep.Witness(p, 0, 0)
	_, e7 := sweep.Zone(p, 0, slim, 0, slim)
	_, e8 := sweep.Clear(p, nil, slim, nil, slim)
	for i, e := range []api.Errno{e0, e1, e2, e3, e4, e5, e6, e7, e8} {
		if e != api.ErrArg {
			t.Error(i, e)
		}
	}
}
