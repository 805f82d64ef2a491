package track_test

import (
	"math"
	"slices"
	"testing"

	"tramline/api"
	"tramline/sample"
	"tramline/track"
)

// ring returns a plan of one rail from a node to itself.
func ring() api.Plan {
	return api.Plan{
		Nodes: []api.Node{{Kind: api.NodePlain, Ends: []api.RailEnd{{}, {Last: true}}}},
		Rails: []api.Rail{{Shape: []api.Spot{{X: 500}, {X: 500, Y: 500}}, Limit: 1}},
	}
}

func lengths(p api.Plan) []int {
	l := make([]int, len(p.Rails))
	for rail := range l {
		l[rail], _ = track.Length(p, rail)
	}
	return l
}

// TestWayLength is for P1.3: lengths, settings (repeated ones, too), and what is no way.
func TestWayLength(t *testing.T) {
	p := sample.Example()
	for _, way := range [][]api.Move{{on(0), on(2)}, {back(2), back(0)}} {
		if n, e := track.WayLength(p, way); n != 2240 || e != api.OK {
			t.Error(way, n, e)
		}
		if l, e := track.Settings(p, way); e != api.OK || !slices.Equal(l, []api.Setting{{Node: 1, Leg: 2}}) {
			t.Error(way, l, e)
		}
	}
	if l, e := track.Settings(p, []api.Move{on(1)}); e != api.OK || len(l) != 0 {
		t.Error(l, e)
	}
	for _, way := range [][]api.Move{nil, {}, {on(0), back(0)}, {on(0), on(0)}, {on(1), on(2)}, {on(0), on(1), on(0)}, {on(-1)}, {on(0), on(3)}} {
		if n, e := track.WayLength(p, way); n != 0 || e != api.ErrArg {
			t.Error(way, n, e)
		}
		if l, e := track.Settings(p, way); len(l) != 0 || e != api.ErrArg {
			t.Error(way, l, e)
		}
	}
	for _, x := range []struct {
		moves int
		want  api.Errno
	}{{1, api.OK}, {2000, api.OK}, {2001, api.ErrArg}} {
		if n, e := track.WayLength(ring(), make([]api.Move, x.moves)); e != x.want || e == api.OK && n != x.moves*(500+500+707) {
			t.Error(x.moves, n, e)
		}
	}
	q := loop()
	if l, e := track.Settings(q, []api.Move{on(1), back(0)}); e != api.OK || !slices.Equal(l, []api.Setting{{Node: 1, Leg: 2}}) {
		t.Error(l, e)
	}
	if l, e := track.Settings(q, []api.Move{on(0), on(1), back(0)}); e != api.OK || !slices.Equal(l, []api.Setting{{Node: 1, Leg: 1}, {Node: 1, Leg: 2}}) {
		t.Error(l, e)
	}
}

// loop returns a plan with a loop behind points.
func loop() api.Plan {
	return api.Plan{
		Nodes: []api.Node{
			{Kind: api.NodeEnd, Ends: []api.RailEnd{{}}},
			{Spot: api.Spot{X: 1000}, Kind: api.NodeSet, Ends: []api.RailEnd{{Last: true}, {Rail: 1}, {Rail: 1, Last: true}}},
		},
		Rails: []api.Rail{{To: 1, Limit: 1}, {From: 1, To: 1, Shape: []api.Spot{{X: 2000, Y: 500}, {X: 2000, Y: -500}}, Limit: 1}},
	}
}

// TestCovers is for P1.3: the examples, the borders between rails, and arguments out of range.
func TestCovers(t *testing.T) {
	p := sample.Example()
	w, b := []api.Move{on(0), on(2)}, []api.Move{back(2), back(0)}
	for _, x := range []struct {
		way           []api.Move
		front, length int
		want          []api.Cover
	}{
		{w, 1500, 800, []api.Cover{{Rail: 0, From: 700, To: 1000}, {Rail: 2, To: 500}}},
		{b, 1500, 800, []api.Cover{{Rail: 2, To: 540}, {Rail: 0, From: 740, To: 1000}}},
		{w, 1000, 1000, []api.Cover{{Rail: 0, To: 1000}}},
		{w, 1001, 1, []api.Cover{{Rail: 2, To: 1}}},
		{w, 1000, 1, []api.Cover{{Rail: 0, From: 999, To: 1000}}},
		{b, 1, 1, []api.Cover{{Rail: 2, From: 1239, To: 1240}}},
		{w, 2240, 2240, []api.Cover{{Rail: 0, To: 1000}, {Rail: 2, To: 1240}}},
	} {
		if l, e := track.Covers(p, x.way, x.front, x.length); e != api.OK || !slices.Equal(l, x.want) {
			t.Error(x, l, e)
		}
	}
	for _, x := range [][2]int{{799, 800}, {2241, 800}, {800, 0}, {800, -1}, {0, 0}, {math.MaxInt, 1}, {math.MinInt, math.MinInt}} {
		if l, e := track.Covers(p, w, x[0], x[1]); len(l) != 0 || e != api.ErrArg {
			t.Error(x, l, e)
		}
	}
	if l, e := track.Covers(p, []api.Move{on(1), on(2)}, 10, 10); len(l) != 0 || e != api.ErrArg {
		t.Error(l, e)
	}
	// A train that is longer than a ring covers it more than once.
	if l, e := track.Covers(ring(), make([]api.Move, 4), 3*1707+1, 2*1707); e != api.OK || !slices.Equal(l, []api.Cover{{From: 1, To: 1707}, {To: 1707}, {To: 1}}) {
		t.Error(l, e)
	}
}

// TestCoverSums is for P1.3: the parts that a car covers have together its length.
func TestCoverSums(t *testing.T) {
	for seed, p := range random(t, 60, 6) {
		r := sample.New(seed)
		way := []api.Move{moveOf(r.Below(2 * len(p.Rails)))}
		for range 8 {
			if next, _ := track.Next(p, way[len(way)-1]); len(next) > 0 {
				way = append(way, next[r.Below(len(next))])
			}
		}
		total, e := track.WayLength(p, way)
		if e != api.OK {
			t.Fatal(seed, e)
		}
		for range 10 {
			length := r.From(1, total)
			front := r.From(length, total)
			l, e := track.Covers(p, way, front, length)
			sum := 0
			for _, c := range l {
				if c.From >= c.To {
					t.Fatal(seed, c)
				}
				sum += c.To - c.From
			}
			if e != api.OK || sum != length {
				t.Fatal(seed, sum, length, e)
			}
		}
	}
}

// all returns all ways without repeated moves by trying them, in the order of the document.
func all(p api.Plan, from, to api.Move) [][]api.Move {
	length := lengths(p)
	measure := func(way []api.Move) int {
		sum := 0
		for _, m := range way {
			sum += length[m.Rail]
		}
		return sum
	}
	var l [][]api.Move
	var extend func(way []api.Move)
	extend = func(way []api.Move) {
		last := way[len(way)-1]
		if last == to {
			l = append(l, slices.Clone(way))
			return
		}
		next, _ := track.Next(p, last)
		for _, m := range next {
			if !slices.Contains(way, m) {
				extend(append(way, m))
			}
		}
	}
	extend([]api.Move{from})
	slices.SortFunc(l, func(a, b []api.Move) int {
		if d := measure(a) - measure(b); d != 0 {
			return d
		}
		if d := len(a) - len(b); d != 0 {
			return d
		}
		return slices.CompareFunc(a, b, func(m, n api.Move) int { return number(m) - number(n) })
	})
	return l
}

// TestWays is for P1.4 and P1.5: all ways, the shortest one and distances, against ways found by trying.
func TestWays(t *testing.T) {
	several := 0
	for seed, p := range random(t, 60, 11) {
		length := lengths(p)
		for y := range 2 * len(p.Rails) {
			distances, e := track.Distances(p, moveOf(y))
			if e != api.OK || len(distances) != 2*len(p.Rails) {
				t.Fatal(seed, y, distances, e)
			}
			for x := range 2 * len(p.Rails) {
				from, to := moveOf(x), moveOf(y)
				want := all(p, from, to)
				several = max(several, len(want))
				shortest, e := track.Shortest(p, from, to)
				if len(want) == 0 {
					if e != api.ErrNone || len(shortest) != 0 || distances[x] != -1 {
						t.Fatal(seed, from, to, shortest, e)
					}
				} else if n, _ := track.WayLength(p, want[0]); e != api.OK || !slices.Equal(shortest, want[0]) || distances[x] != n-length[x/2] {
					t.Fatal(seed, from, to, shortest, want[0], e)
				}
				for _, most := range []int{1, 3, api.MaxWays} {
					got, e := track.Ways(p, from, to, most)
					if e != api.OK || !slices.EqualFunc(got, want[:min(most, len(want))], slices.Equal) {
						t.Fatal(seed, from, to, got, want, e)
					}
				}
			}
		}
	}
	if several < 5 {
		t.Error("the samples are too simple:", several)
	}
	for _, most := range []int{0, -1, 201, math.MaxInt, math.MinInt} {
		if l, e := track.Ways(sample.Example(), on(0), on(1), most); len(l) != 0 || e != api.ErrArg {
			t.Error(most, l, e)
		}
	}
}

// ladder returns a plan of so many pairs of ways of the same length, one after the other: points, two rails, points.
func ladder(pairs int) api.Plan {
	p := api.Plan{Nodes: []api.Node{{Kind: api.NodeEnd, Ends: []api.RailEnd{{}}}}, Rails: []api.Rail{{To: 1, Limit: 1}}}
	for i := range pairs {
		n, r := len(p.Nodes), len(p.Rails)
		p.Nodes = append(p.Nodes,
			api.Node{Spot: api.Spot{X: 20*i + 10}, Kind: api.NodeSet, Ends: []api.RailEnd{{Rail: r - 1, Last: true}, {Rail: r}, {Rail: r + 1}}},
			api.Node{Spot: api.Spot{X: 20*i + 20}, Kind: api.NodeSet, Ends: []api.RailEnd{{Rail: r + 2}, {Rail: r, Last: true}, {Rail: r + 1, Last: true}}})
		p.Rails = append(p.Rails, api.Rail{From: n, To: n + 1, Limit: 1}, api.Rail{From: n, To: n + 1, Limit: 1}, api.Rail{From: n + 1, To: n + 2, Limit: 1})
	}
	p.Nodes = append(p.Nodes, api.Node{Spot: api.Spot{X: 20*pairs + 30}, Kind: api.NodeEnd, Ends: []api.RailEnd{{Rail: len(p.Rails) - 1, Last: true}}})
	return p
}

// TestManyWays is for P1.5: a plan with 2^130 ways of the same length.
func TestManyWays(t *testing.T) {
	p := ladder(130)
	if e := track.Check(p); e != api.OK {
		t.Fatal(e)
	}
	l, e := track.Ways(p, on(0), on(len(p.Rails)-1), api.MaxWays)
	if e != api.OK || len(l) != api.MaxWays {
		t.Fatal(len(l), e)
	}
	for i, way := range l {
		if len(way) != 2*130+1 {
			t.Fatal(i, len(way))
		}
		for k := range 130 { // in lexicographic order the last pairs count up like bits
			want := 3*k + 1
			if 129-k < 8 {
				want += i >> (129 - k) & 1
			}
			if way[2*k+1] != on(want) {
				t.Fatal(i, k, way[2*k+1])
			}
		}
	}
}

// TestConsistent is for P1.4: the distances are consistent, and no other list is.
func TestConsistent(t *testing.T) {
	p := sample.Example()
	d, e := track.Distances(p, on(2))
	if e != api.OK || !slices.Equal(d, []int{1240, -1, -1, -1, 0, -1}) {
		t.Error(d, e)
	}
	for seed, p := range random(t, 60, 6) {
		r := sample.New(seed)
		to := moveOf(r.Below(2 * len(p.Rails)))
		d, _ := track.Distances(p, to)
		if !track.Consistent(p, to, d) {
			t.Fatal(seed, to, d)
		}
		if track.Consistent(p, to, d[1:]) || track.Consistent(p, to, append(slices.Clone(d), -1)) {
			t.Fatal(seed, to, "wrong length")
		}
		for i := range d {
			for _, x := range []int{-1, 0, d[i] - 1, d[i] + 1, -2, math.MaxInt, math.MinInt} {
				c := slices.Clone(d)
				c[i] = x
				if x != d[i] && track.Consistent(p, to, c) {
					t.Fatal(seed, to, i, x)
				}
			}
		}
	}
	for _, x := range []api.Move{on(-1), on(3)} {
		if d, e := track.Distances(p, x); len(d) != 0 || e != api.ErrArg || track.Consistent(p, x, make([]int, 6)) {
			t.Error(x, d, e)
		}
	}
	p.Rails[0].Limit = 0
	if _, e := track.Distances(p, on(2)); e != api.ErrArg || track.Consistent(p, on(2), d) {
		t.Error("distances on a plan that is not valid")
	}
}

// longestWay returns how many moves the longest way has that begins with a move, at most so many.
func longestWay(p api.Plan, m api.Move, most int) int {
	now := map[api.Move]bool{m: true}
	for n := 1; n < most; n++ {
		then := map[api.Move]bool{}
		for m := range now {
			next, _ := track.Next(p, m)
			for _, x := range next {
				then[x] = true
			}
		}
		if len(then) == 0 {
			return n
		}
		now = then
	}
	return most
}

// TestEndless is for P1.6: a way with more moves than there are begins with an endless move, and each endless move begins one.
func TestEndless(t *testing.T) {
	seen := map[bool]int{}
	for seed, p := range random(t, 120, 9) {
		l, e := track.Endless(p)
		if e != api.OK || len(l) != 2*len(p.Rails) {
			t.Fatal(seed, l, e)
		}
		for m, endless := range l {
			seen[endless]++
			if n := longestWay(p, moveOf(m), len(l)+1); endless != (n > len(l)) {
				t.Fatal(seed, m, endless, n)
			}
		}
		for rail := range p.Rails {
			there, back := all(p, on(rail), back(rail)), all(p, back(rail), on(rail))
			if is, e := track.Turns(p, rail); e != api.OK || is != (len(there)+len(back) > 0) {
				t.Fatal(seed, rail, is, e)
			}
		}
	}
	if seen[true] == 0 || seen[false] == 0 {
		t.Error("the samples are too simple:", seen)
	}
	p := sample.Example()
	if l, e := track.Endless(p); e != api.OK || !slices.Equal(l, make([]bool, 6)) {
		t.Error(l, e)
	}
	for _, rail := range []int{-1, 3} {
		if is, e := track.Turns(p, rail); is || e != api.ErrArg {
			t.Error(rail, is, e)
		}
	}
	p.Rails[1].Slope = 200
	if l, e := track.Endless(p); len(l) != 0 || e != api.ErrArg {
		t.Error(l, e)
	}
	if is, e := track.Turns(p, 0); is || e != api.ErrArg {
		t.Error(is, e)
	}
}

// turned returns a plan whose rails are all turned around.
func turned(p api.Plan) api.Plan {
	q := api.Plan{Nodes: slices.Clone(p.Nodes), Rails: slices.Clone(p.Rails)}
	for i := range q.Nodes {
		q.Nodes[i].Ends = slices.Clone(q.Nodes[i].Ends)
		for k := range q.Nodes[i].Ends {
			q.Nodes[i].Ends[k].Last = !q.Nodes[i].Ends[k].Last
		}
	}
	for i, rail := range p.Rails {
		shape := slices.Clone(rail.Shape)
		slices.Reverse(shape)
		q.Rails[i] = api.Rail{From: rail.To, To: rail.From, Shape: shape, Limit: rail.Limit, Slope: -rail.Slope}
	}
	return q
}

// TestTurnedPlan is for P1.7: the same ways, with Back exchanged.
func TestTurnedPlan(t *testing.T) {
	for seed, p := range random(t, 60, 7) {
		q := turned(p)
		if track.Check(q) != api.OK || !slices.Equal(lengths(p), lengths(q)) {
			t.Fatal(seed)
		}
		for x := range 2 * len(p.Rails) {
			d, _ := track.Distances(p, moveOf(x))
			e, _ := track.Distances(q, opposite(moveOf(x)))
			for y := range d {
				if d[y] != e[y^1] {
					t.Fatal(seed, x, y)
				}
				m, n := moveOf(x), moveOf(y)
				is, _ := track.Follows(p, m, n)
				too, _ := track.Follows(q, opposite(m), opposite(n))
				if is != too {
					t.Fatal(seed, m, n)
				}
				l, _ := track.Ways(p, m, n, api.MaxWays)
				k, _ := track.Ways(q, opposite(m), opposite(n), api.MaxWays)
				if len(l) != len(k) {
					t.Fatal(seed, m, n)
				}
			}
		}
	}
}
