package track_test

import (
	"math"
	"slices"
	"testing"

	"tramline/api"
	"tramline/sample"
	"tramline/track"
)

func on(rail int) api.Move   { return api.Move{Rail: rail} }
func back(rail int) api.Move { return api.Move{Rail: rail, Back: true} }

func number(m api.Move) int {
	if m.Back {
		return 2*m.Rail + 1
	}
	return 2 * m.Rail
}

func moveOf(number int) api.Move { return api.Move{Rail: number / 2, Back: number%2 == 1} }

func opposite(m api.Move) api.Move { return api.Move{Rail: m.Rail, Back: !m.Back} }

// random returns some small valid plans.
func random(t *testing.T, count, nodes int) []api.Plan {
	t.Helper()
	var l []api.Plan
	for seed := range count {
		p := sample.Plan(sample.New(seed), 1+seed%nodes, 4+seed%5)
		if e := track.Check(p); e != api.OK {
			t.Fatal("a sample is not valid:", seed, e)
		}
		l = append(l, p)
	}
	return l
}

// TestCheck is for P1.1: each rule of a valid plan, from both sides.
func TestCheck(t *testing.T) {
	type change struct {
		name string
		do   func(p *api.Plan)
		want api.Errno
	}
	for _, c := range []change{
		{"as it is", func(p *api.Plan) {}, api.OK},
		{"no nodes", func(p *api.Plan) { p.Nodes = nil }, api.ErrArg},
		{"no rails", func(p *api.Plan) { p.Rails = nil }, api.ErrArg},
		{"nothing", func(p *api.Plan) { *p = api.Plan{} }, api.ErrArg},
		{"spot at the border", func(p *api.Plan) { shift(p, 10000000-2000, -10000000) }, api.OK},
		{"spot at the other border", func(p *api.Plan) { shift(p, -10000000, 10000000-500) }, api.OK},
		{"spot left of the border", func(p *api.Plan) { shift(p, -10000001, 0) }, api.ErrArg},
		{"spot above the border", func(p *api.Plan) { shift(p, 0, 10000001-500) }, api.ErrArg},
		{"spot right of the border", func(p *api.Plan) { shift(p, 10000001-2000, 0) }, api.ErrArg},
		{"spot below the border", func(p *api.Plan) { shift(p, 0, -10000001) }, api.ErrArg},
		{"shape beyond the border", func(p *api.Plan) { p.Rails[2].Shape[0].X = math.MinInt }, api.ErrArg},
		{"node far away", func(p *api.Plan) { p.Nodes[3].Spot.Y = math.MaxInt }, api.ErrArg},
		{"kind 0", func(p *api.Plan) { p.Nodes[0].Kind = 0 }, api.ErrArg},
		{"kind 7", func(p *api.Plan) { p.Nodes[0].Kind = 7 }, api.ErrArg},
		{"kind -1", func(p *api.Plan) { p.Nodes[0].Kind = -1 }, api.ErrArg},
		{"too few ends", func(p *api.Plan) { p.Nodes[0].Kind = api.NodePlain }, api.ErrArg},
		{"too many ends", func(p *api.Plan) { p.Nodes[1].Kind = api.NodePlain }, api.ErrArg},
		{"no ends", func(p *api.Plan) { p.Nodes[0].Ends = nil }, api.ErrArg},
		{"normal of a set", func(p *api.Plan) { p.Nodes[1].Normal = 1 }, api.ErrArg},
		{"normal of an end", func(p *api.Plan) { p.Nodes[0].Normal = 1 }, api.ErrArg},
		{"spring without a normal", func(p *api.Plan) { p.Nodes[1].Kind = api.NodeSpring }, api.ErrArg},
		{"spring", func(p *api.Plan) { p.Nodes[1].Kind, p.Nodes[1].Normal = api.NodeSpring, 2 }, api.OK},
		{"locked", func(p *api.Plan) { p.Nodes[1].Kind, p.Nodes[1].Normal = api.NodeLocked, 1 }, api.OK},
		{"normal 3", func(p *api.Plan) { p.Nodes[1].Kind, p.Nodes[1].Normal = api.NodeLocked, 3 }, api.ErrArg},
		{"normal -1", func(p *api.Plan) { p.Nodes[1].Kind, p.Nodes[1].Normal = api.NodeSpring, -1 }, api.ErrArg},
		{"from nowhere", func(p *api.Plan) { p.Rails[0].From = -1 }, api.ErrArg},
		{"from a node too many", func(p *api.Plan) { p.Rails[0].From = 4 }, api.ErrArg},
		{"to before all", func(p *api.Plan) { p.Rails[0].To = -1 }, api.ErrArg},
		{"to nowhere", func(p *api.Plan) { p.Rails[0].To = 4 }, api.ErrArg},
		{"limit 0", func(p *api.Plan) { p.Rails[0].Limit = 0 }, api.ErrArg},
		{"limit 1", func(p *api.Plan) { p.Rails[0].Limit = 1 }, api.OK},
		{"limit 50000", func(p *api.Plan) { p.Rails[0].Limit = 50000 }, api.OK},
		{"limit 50001", func(p *api.Plan) { p.Rails[0].Limit = 50001 }, api.ErrArg},
		{"slope -120", func(p *api.Plan) { p.Rails[0].Slope = -120 }, api.OK},
		{"slope 120", func(p *api.Plan) { p.Rails[0].Slope = 120 }, api.OK},
		{"slope -121", func(p *api.Plan) { p.Rails[0].Slope = -121 }, api.ErrArg},
		{"slope 121", func(p *api.Plan) { p.Rails[0].Slope = 121 }, api.ErrArg},
		{"equal neighbors", func(p *api.Plan) { p.Rails[2].Shape[0] = p.Nodes[1].Spot }, api.ErrArg},
		{"equal neighbors at the end", func(p *api.Plan) { p.Rails[2].Shape[0] = p.Nodes[3].Spot }, api.ErrArg},
		{"equal nodes", func(p *api.Plan) { p.Nodes[0].Spot = p.Nodes[1].Spot }, api.ErrArg},
		{"1000000 long", func(p *api.Plan) { p.Nodes[2].Spot = api.Spot{X: 1000 + 1000000, Y: 1414} }, api.OK},
		{"1000001 long", func(p *api.Plan) { p.Nodes[2].Spot = api.Spot{X: 1000 + 1000000, Y: 1415} }, api.ErrArg},
		{"30 spots", func(p *api.Plan) { p.Rails[2].Shape = spots(30) }, api.OK},
		{"31 spots", func(p *api.Plan) { p.Rails[2].Shape = spots(31) }, api.ErrArg},
		{"wrong end", func(p *api.Plan) { p.Nodes[1].Ends[1].Last = true }, api.ErrArg},
		{"end twice", func(p *api.Plan) { p.Nodes[1].Ends[2] = p.Nodes[1].Ends[1] }, api.ErrArg},
		{"stem twice", func(p *api.Plan) { p.Nodes[1].Ends[1] = p.Nodes[1].Ends[0] }, api.ErrArg},
		{"end of no rail", func(p *api.Plan) { p.Nodes[1].Ends[2].Rail = 3 }, api.ErrArg},
		{"end of rail -1", func(p *api.Plan) { p.Nodes[1].Ends[2].Rail = -1 }, api.ErrArg},
		{"end missing", func(p *api.Plan) { p.Nodes = append(p.Nodes, p.Nodes[0]); p.Rails[0].From = 4; p.Nodes[0].Ends = nil }, api.ErrArg},
		{"end elsewhere, too", func(p *api.Plan) { p.Nodes = append(p.Nodes, p.Nodes[0]) }, api.ErrArg},
		{"rail without ends", func(p *api.Plan) { p.Rails = append(p.Rails, p.Rails[0]) }, api.ErrArg},
	} {
		p := sample.Example()
		c.do(&p)
		if e := track.Check(p); e != c.want {
			t.Error(c.name, e)
		}
	}
}

func shift(p *api.Plan, dx, dy int) {
	for i := range p.Nodes {
		p.Nodes[i].Spot.X += dx
		p.Nodes[i].Spot.Y += dy
	}
	for i := range p.Rails {
		for k := range p.Rails[i].Shape {
			p.Rails[i].Shape[k].X += dx
			p.Rails[i].Shape[k].Y += dy
		}
	}
}

func spots(n int) []api.Spot {
	var l []api.Spot
	for i := range n {
		l = append(l, api.Spot{X: 1600, Y: i % 2})
	}
	return l
}

// lines returns a plan of so many rails, each by itself.
func lines(rails int) api.Plan {
	var p api.Plan
	for i := range rails {
		for _, last := range []bool{false, true} {
			n := api.Node{Spot: api.Spot{Y: i}, Kind: api.NodeEnd, Ends: []api.RailEnd{{Rail: i, Last: last}}}
			if last {
				n.Spot.X = 1
			}
			p.Nodes = append(p.Nodes, n)
		}
		p.Rails = append(p.Rails, api.Rail{From: 2 * i, To: 2*i + 1, Limit: 1})
	}
	return p
}

// crosses returns a plan of so many crossings in a circle, with twice as many rails.
func crosses(n int) api.Plan {
	var p api.Plan
	for i := range n {
		before := (i + n - 1) % n
		p.Nodes = append(p.Nodes, api.Node{Spot: api.Spot{X: i}, Kind: api.NodeCross, Ends: []api.RailEnd{{Rail: 2 * before, Last: true}, {Rail: 2*before + 1, Last: true}, {Rail: 2 * i}, {Rail: 2*i + 1}}})
		for range 2 {
			p.Rails = append(p.Rails, api.Rail{From: i, To: (i + 1) % n, Limit: 1})
		}
	}
	return p
}

// TestSizes is for P1.1: how many nodes and rails a plan has.
func TestSizes(t *testing.T) {
	for _, x := range []struct {
		p    api.Plan
		want api.Errno
	}{{lines(150), api.OK}, {lines(151), api.ErrArg}, {crosses(200), api.OK}, {crosses(201), api.ErrArg}, {lines(1), api.OK}} {
		if e := track.Check(x.p); e != x.want {
			t.Error(len(x.p.Nodes), len(x.p.Rails), e)
		}
	}
}

// TestLength is for P1.1: lengths are sums of integer parts, and lines begin and end at nodes.
func TestLength(t *testing.T) {
	p := sample.Example()
	for rail, want := range []int{1000, 1000, 1240} {
		if n, e := track.Length(p, rail); n != want || e != api.OK {
			t.Error(rail, n, e)
		}
	}
	p.Rails[2].Shape = []api.Spot{{X: 1001, Y: 1}, {X: 1002, Y: 2}, {X: 1003, Y: 3}} // 1 and 1 and 1, then 1114.05..
	if n, e := track.Length(p, 2); n != 3+1114 || e != api.OK {
		t.Error(n, e)
	}
	l, e := track.Line(p, 2)
	if e != api.OK || !slices.Equal(l, []api.Spot{{X: 1000}, {X: 1001, Y: 1}, {X: 1002, Y: 2}, {X: 1003, Y: 3}, {X: 2000, Y: 500}}) {
		t.Error(l, e)
	}
	l[1].X = 0
	if p.Rails[2].Shape[0].X != 1001 {
		t.Error("the line shares memory with the plan")
	}
	for _, rail := range []int{-1, 3, math.MinInt, math.MaxInt} {
		if n, e := track.Length(p, rail); n != 0 || e != api.ErrArg {
			t.Error(rail, n, e)
		}
		if l, e := track.Line(p, rail); len(l) != 0 || e != api.ErrArg {
			t.Error(rail, l, e)
		}
	}
	for d := 1; d < 2000; d++ { // around squares
		q := lines(1)
		q.Nodes[1].Spot = api.Spot{X: d % 1000, Y: d * d % 997}
		want := int(math.Sqrt(float64(q.Nodes[1].Spot.X*q.Nodes[1].Spot.X + q.Nodes[1].Spot.Y*q.Nodes[1].Spot.Y)))
		if n, e := track.Length(q, 0); want > 0 && (n != want || e != api.OK) {
			t.Error(q.Nodes[1].Spot, n, want, e)
		}
	}
}

// lets says whether a node lets a car go from the end i to the end j: the table of the document.
func lets(n api.Node, i, j int) bool {
	stem, leg := min(i, j) == 0, max(i, j)
	switch n.Kind {
	case api.NodePlain:
		return i != j
	case api.NodeCross:
		return (i-j)*(i-j) == 4
	case api.NodeSet:
		return stem && leg > 0
	case api.NodeSpring:
		return i == 0 && j == n.Normal || i > 0 && j == 0
	case api.NodeLocked:
		return stem && leg == n.Normal
	}
	return false
}

// passage returns the node between two moves, and the two ends there.
func passage(p api.Plan, m, n api.Move) (int, int, int) {
	at := p.Rails[m.Rail].To
	if m.Back {
		at = p.Rails[m.Rail].From
	}
	i := slices.Index(p.Nodes[at].Ends, api.RailEnd{Rail: m.Rail, Last: !m.Back})
	j := slices.Index(p.Nodes[at].Ends, api.RailEnd{Rail: n.Rail, Last: n.Back})
	return at, i, j
}

// TestNext is for P1.2, with the table of kinds; and for what it says of opposite moves.
func TestNext(t *testing.T) {
	for seed, p := range random(t, 120, 7) {
		for x := range 2 * len(p.Rails) {
			var want []api.Move
			for y := range 2 * len(p.Rails) {
				m, n := moveOf(x), moveOf(y)
				at, i, j := passage(p, m, n)
				is := i >= 0 && j >= 0 && lets(p.Nodes[at], i, j)
				if is {
					want = append(want, n)
				}
				if got, e := track.Follows(p, m, n); got != is || e != api.OK {
					t.Fatal(seed, m, n, got, e)
				}
				checkBetween(t, p, m, n, is)
				if turned, _ := track.Follows(p, opposite(n), opposite(m)); is && !turned && p.Nodes[at].Kind != api.NodeSpring {
					t.Fatal(seed, m, n, "opposite")
				}
			}
			if l, e := track.Next(p, moveOf(x)); e != api.OK || !slices.Equal(l, want) {
				t.Fatal(seed, x, l, want, e)
			}
		}
	}
}

func checkBetween(t *testing.T, p api.Plan, m, n api.Move, follows bool) {
	t.Helper()
	at, i, j := passage(p, m, n)
	s, e := track.Between(p, m, n)
	if !follows || p.Nodes[at].Kind != api.NodeSet {
		if e != api.ErrNone || s != (api.Setting{}) {
			t.Fatal(m, n, s, e)
		}
	} else if e != api.OK || s != (api.Setting{Node: at, Leg: max(i, j)}) {
		t.Fatal(m, n, s, e)
	}
}

// TestNoMoves is for P1.2 and P1.4: moves over rails that do not exist, plans that are not valid.
func TestNoMoves(t *testing.T) {
	p := sample.Example()
	for _, x := range []api.Move{on(-1), back(3), on(math.MaxInt), back(math.MinInt)} {
		for i, e := range refusals(p, x, on(0)) {
			if e != api.ErrArg {
				t.Error(x, i, e)
			}
		}
		for i, e := range refusals(p, on(0), x) {
			if e != api.ErrArg && i != 0 {
				t.Error(x, i, e)
			}
		}
	}
	p.Rails[0].Limit = 0
	for i, e := range refusals(p, on(0), on(1)) {
		if e != api.ErrArg {
			t.Error(i, e)
		}
	}
}

// refusals returns the errors of all functions that take a move m, and perhaps a move n.
func refusals(p api.Plan, m, n api.Move) []api.Errno {
	_, e0 := track.Next(p, m)
	_, e1 := track.Follows(p, m, n)
	_, e2 := track.Between(p, m, n)
	_, e3 := track.Shortest(p, m, n)
	_, e4 := track.Ways(p, m, n, 1)
	_, e5 := track.WayLength(p, []api.Move{m, n})
	_, e6 := track.Settings(p, []api.Move{m, n})
	_, e7 := track.Covers(p, []api.Move{m, n}, 1, 1)
	return []api.Errno{e0, e1, e2, e3, e4, e5, e6, e7}
}

// TestExampleMoves is for P1.2: the examples of the chapter.
func TestExampleMoves(t *testing.T) {
	p := sample.Example()
	for _, x := range []struct {
		m    api.Move
		want []api.Move
	}{{on(0), []api.Move{on(1), on(2)}}, {back(1), []api.Move{back(0)}}, {on(1), nil}} {
		if l, e := track.Next(p, x.m); e != api.OK || !slices.Equal(l, x.want) {
			t.Error(x.m, l, e)
		}
	}
	for _, x := range [][2]api.Move{{on(0), on(2)}, {back(2), back(0)}} {
		if s, e := track.Between(p, x[0], x[1]); e != api.OK || s != (api.Setting{Node: 1, Leg: 2}) {
			t.Error(x, s, e)
		}
	}
	if s, e := track.Between(p, on(0), back(1)); e != api.ErrNone || s != (api.Setting{}) {
		t.Error(s, e)
	}
}
