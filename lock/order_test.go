package lock_test

import (
	"reflect"
	"slices"
	"testing"

	"tramline/api"
	"tramline/lock"
	"tramline/sample"
	"tramline/track"
)

// begun returns the model in which cars with wishes have yielded.
func (m *model) begun(wishes []api.Wish) *model {
	n := m.copied()
	for _, w := range wishes {
		c := n.cars[w.Name]
		c.Way = c.Way[:c.Front+1]
		n.cars[w.Name] = c
	}
	return n
}

// step makes the step with a number of a car with a wish; false if it is not possible.
func (m *model) step(w api.Wish, made int) bool {
	c := m.cars[w.Name]
	last := made+1 == len(w.Moves)
	switch {
	case len(w.Moves) == 0 && w.Exit && made == 0:
		last = true
	case made >= len(w.Moves):
		return false
	default:
		if m.refusal(c, w.Moves[made]).Kind != 0 {
			return false
		}
		c = m.grant(c, w.Moves[made])
		c.Way = c.Way[1:]
		c.Front = len(c.Way) - 1
	}
	m.cars[w.Name] = c
	if last && w.Exit {
		delete(m.cars, w.Name)
	}
	return true
}

func steps(w api.Wish) int {
	if len(w.Moves) == 0 && w.Exit {
		return 1
	}
	return len(w.Moves)
}

// first returns the first order by trying all of them in their order, without remembering anything; false if it takes too long.
func (m *model) first(wishes []api.Wish) (order []int, found, known bool) {
	tried := 0
	var try func(m *model, made []int) bool
	try = func(m *model, made []int) bool {
		done := true
		for i, w := range wishes {
			done = done && made[i] == steps(w)
		}
		if done {
			return true
		}
		for i, w := range wishes {
			if tried++; tried > 3000 {
				return false
			}
			n := m.copied()
			if !n.step(w, made[i]) {
				continue
			}
			then := slices.Clone(made)
			then[i]++
			order = append(order, w.Name)
			if try(n, then) {
				return true
			}
			order = order[:len(order)-1]
		}
		return false
	}
	found = try(m.begun(wishes), make([]int, len(wishes)))
	return order, found, tried <= 3000
}

// completes plays an order.
func (m *model) completes(wishes []api.Wish, order []int) bool {
	n := m.begun(wishes)
	made := make([]int, len(wishes))
	for _, name := range order {
		i := slices.IndexFunc(wishes, func(w api.Wish) bool { return w.Name == name })
		if i < 0 || !n.step(wishes[i], made[i]) {
			return false
		}
		made[i]++
	}
	for i, w := range wishes {
		if made[i] != steps(w) {
			return false
		}
	}
	return true
}

// randomWishes returns wishes for some cars, by their names.
func randomWishes(r *sample.Rand, m *model) []api.Wish {
	var wishes []api.Wish
	for _, c := range m.list() {
		if r.Often(20) {
			continue
		}
		w := api.Wish{Name: c.Name, Exit: r.Often(50)}
		last := c.Way[c.Front]
		for range r.Below(5) {
			next, _ := track.Next(m.s.Plan, last)
			if len(next) == 0 {
				break
			}
			last = next[r.Below(len(next))]
			w.Moves = append(w.Moves, last)
		}
		wishes = append(wishes, w)
	}
	return wishes
}

// TestOrder is for P5.5: first orders against all orders; what completes wishes, and what does not.
func TestOrder(t *testing.T) {
	seen := map[string]int{}
	for seed := range 400 {
		s := setup(seed)
		l, m, r := open(t, s), newModel(s), sample.New(seed+5000)
		for range 25 {
			command(t, r, l, m, map[api.RefusalKind]int{})
		}
		wishes := randomWishes(r, m)
		cars, points := l.Cars(), l.Points()
		want, found, known := m.first(wishes)
		shuffled := slices.Clone(wishes)
		slices.Reverse(shuffled)
		order, e := l.Order(shuffled)
		if known && (found != (e == api.OK) || !found && e != api.ErrNone || found && !slices.Equal(order, want)) {
			t.Fatal(seed, wishes, order, want, e)
		}
		if e == api.OK {
			if is, e := l.Completes(wishes, order); !is || e != api.OK || !m.completes(wishes, order) {
				t.Fatal(seed, wishes, order, e)
			}
			if found && !slices.IsSorted(order) {
				seen["not sorted"]++
			}
		}
		seen[[]string{"none", "found"}[map[bool]int{true: 1}[e == api.OK]]]++
		for range 5 {
			var other []int
			for _, w := range wishes {
				other = append(other, slices.Repeat([]int{w.Name}, steps(w))...)
			}
			for i := range other {
				k := r.Below(len(other))
				other[i], other[k] = other[k], other[i]
			}
			if r.Often(10) {
				other = append(other, r.From(1, 7))
			}
			if is, e := l.Completes(wishes, other); e != api.OK || is != m.completes(wishes, other) {
				t.Fatal(seed, wishes, other, is, e)
			}
		}
		if !reflect.DeepEqual(l.Cars(), cars) || !slices.Equal(l.Points(), points) {
			t.Fatal(seed, "the lock has changed")
		}
	}
	if seen["none"] < 20 || seen["found"] < 20 || seen["not sorted"] < 5 {
		t.Error("the samples are too simple:", seen)
	}
}

// TestWishes is for P5.5: wishes that are not as defined, and empty ones.
func TestWishes(t *testing.T) {
	l := open(t, api.LockSetup{Plan: chain(80), Profiles: []api.Profile{{Half: 10}}})
	l.Enter(1, 0, []api.Move{on(0), on(1)})
	l.Ask(1, on(2))
	l.Enter(2, 0, []api.Move{on(70)})
	forward := func(from, n int) []api.Move {
		var l []api.Move
		for i := range n {
			l = append(l, on(from+i))
		}
		return l
	}
	for i, c := range []struct {
		wishes []api.Wish
		want   api.Errno
		order  []int
	}{
		{nil, api.OK, nil},
		{[]api.Wish{{Name: 1, Moves: forward(2, 3)}}, api.OK, []int{1, 1, 1}},
		{[]api.Wish{{Name: 1, Moves: forward(2, 60)}}, api.OK, slices.Repeat([]int{1}, 60)},
		{[]api.Wish{{Name: 1, Moves: forward(2, 61)}}, api.ErrArg, nil},
		{[]api.Wish{{Name: 1, Moves: forward(3, 1)}}, api.ErrArg, nil}, // from the front, not from what is granted
		{[]api.Wish{{Name: 1, Moves: []api.Move{on(2), on(4)}}}, api.ErrArg, nil},
		{[]api.Wish{{Name: 1, Moves: []api.Move{on(-1)}}}, api.ErrArg, nil},
		{[]api.Wish{{Name: 3}}, api.ErrArg, nil},
		{[]api.Wish{{Name: 0}}, api.ErrArg, nil},
		{[]api.Wish{{Name: 1}, {Name: 1}}, api.ErrArg, nil},
		{[]api.Wish{{Name: 1}, {Name: 2}}, api.OK, nil},
		{[]api.Wish{{Name: 2, Exit: true}, {Name: 1, Exit: true}}, api.OK, []int{1, 2}},
		{[]api.Wish{{Name: 1, Moves: forward(2, 67)}}, api.ErrArg, nil},
	} {
		order, e := l.Order(c.wishes)
		if e != c.want || !slices.Equal(order, c.order) {
			t.Error(i, order, e)
		}
		if is, e := l.Completes(c.wishes, c.order); e != c.want || is != (e == api.OK) {
			t.Error(i, is, e)
		}
		if is, _ := l.Completes(c.wishes, append(slices.Clone(c.order), 1)); is {
			t.Error(i, "a step too many")
		}
		if is, _ := l.Completes(c.wishes, append(slices.Clone(c.order), 9)); is {
			t.Error(i, "a name without a wish")
		}
	}
	// The car that stands in the way has no wish, or exits.
	if order, e := l.Order([]api.Wish{{Name: 1, Moves: forward(2, 60)}, {Name: 2, Moves: []api.Move{on(71)}}}); e != api.OK || len(order) != 61 {
		t.Error(order, e)
	}
	l.Enter(3, 0, []api.Move{on(30)})
	if order, e := l.Order([]api.Wish{{Name: 1, Moves: forward(2, 60)}}); e != api.ErrNone || len(order) > 0 {
		t.Error(order, e)
	}
	if order, e := l.Order([]api.Wish{{Name: 1, Moves: forward(2, 60)}, {Name: 3, Exit: true}}); e != api.OK || !slices.Equal(order, append(slices.Repeat([]int{1}, 27), append([]int{3}, slices.Repeat([]int{1}, 33)...)...)) {
		t.Error(order, e)
	}
}

// siding returns a line with two tracks in its middle: rail 0, then 1 2 3 above or 4 5 6 below, then rail 7.
func siding() api.Plan {
	plain := func(x, y, before, after int) api.Node {
		return api.Node{Spot: api.Spot{X: x, Y: y}, Kind: api.NodePlain, Ends: []api.RailEnd{{Rail: before, Last: true}, {Rail: after}}}
	}
	p := api.Plan{Nodes: []api.Node{
		{Kind: api.NodeEnd, Ends: []api.RailEnd{{}}},
		{Spot: api.Spot{X: 10000}, Kind: api.NodeSet, Ends: []api.RailEnd{{Last: true}, {Rail: 1}, {Rail: 4}}},
		plain(20000, 5000, 1, 2), plain(30000, 5000, 2, 3), plain(20000, -5000, 4, 5), plain(30000, -5000, 5, 6),
		{Spot: api.Spot{X: 40000}, Kind: api.NodeSet, Ends: []api.RailEnd{{Rail: 7}, {Rail: 3, Last: true}, {Rail: 6, Last: true}}},
		{Spot: api.Spot{X: 50000}, Kind: api.NodeEnd, Ends: []api.RailEnd{{Rail: 7, Last: true}}},
	}}
	for _, ends := range [][2]int{{0, 1}, {1, 2}, {2, 3}, {3, 6}, {1, 4}, {4, 5}, {5, 6}, {6, 7}} {
		p.Rails = append(p.Rails, api.Rail{From: ends[0], To: ends[1], Limit: 1})
	}
	return p
}

// TestSiding is for P5.5: two cars that pass each other, and two that cannot.
func TestSiding(t *testing.T) {
	s := api.LockSetup{Plan: siding(), Profiles: []api.Profile{{Half: 10}}}
	below := api.Wish{Name: 2, Moves: []api.Move{back(6), back(5), back(4), back(0)}, Exit: true}
	l := open(t, s)
	_, e0 := l.Enter(1, 0, []api.Move{on(2)})
	_, e1 := l.Enter(2, 0, []api.Move{back(7)})
	if e0 != api.OK || e1 != api.OK {
		t.Fatal(e0, e1)
	}
	first := api.Wish{Name: 1, Moves: []api.Move{on(3), on(7)}}
	// Rails that meet foul each other: the car 1 waits until the car 2 is on the rail 5.
	if order, e := l.Order([]api.Wish{first, below}); e != api.OK || !slices.Equal(order, []int{2, 2, 1, 1, 2, 2}) {
		t.Error(order, e)
	}
	if is, e := l.Completes([]api.Wish{first, below}, []int{2, 2, 2, 1, 1, 2}); !is || e != api.OK {
		t.Error(is, e)
	}
	if is, e := l.Completes([]api.Wish{first, below}, []int{2, 1, 2, 1, 2, 2}); is || e != api.OK {
		t.Error(is, e)
	}
	above := api.Wish{Name: 2, Moves: []api.Move{back(3), back(2), back(1), back(0)}, Exit: true}
	if order, e := l.Order([]api.Wish{first, above}); e != api.ErrNone || len(order) > 0 {
		t.Error(order, e)
	}
	if order, e := l.Order([]api.Wish{{Name: 1, Exit: true}, above}); e != api.OK || !slices.Equal(order, []int{1, 2, 2, 2, 2}) {
		t.Error(order, e)
	}
}

// TestOpen is for P5.5: a search that would look at too many states.
func TestOpen(t *testing.T) {
	p := sample.Lines()
	for i := range 8 {
		q := chain(30)
		for k := range q.Nodes {
			q.Nodes[k].Spot.Y = i * 10000
			q.Nodes[k].Ends = slices.Clone(q.Nodes[k].Ends)
			for n := range q.Nodes[k].Ends {
				q.Nodes[k].Ends[n].Rail += 30 * i
			}
		}
		for _, rail := range q.Rails {
			rail.From += 31 * i
			rail.To += 31 * i
			p.Rails = append(p.Rails, rail)
		}
		p.Nodes = append(p.Nodes, q.Nodes...)
	}
	l := open(t, api.LockSetup{Plan: p, Profiles: []api.Profile{{Half: 10}}})
	var wishes []api.Wish
	for i := range 8 {
		if _, e := l.Enter(i+1, 0, []api.Move{on(30 * i)}); e != api.OK {
			t.Fatal(e)
		}
		w := api.Wish{Name: i + 1}
		for k := range 29 {
			w.Moves = append(w.Moves, on(30*i+k+1))
		}
		wishes = append(wishes, w)
	}
	if order, e := l.Order(wishes); e != api.OK || len(order) != 8*29 {
		t.Error(len(order), e)
	}
	// With a car in the way of the last one, all states of the others are looked at: 30^3 are too many, 27^3 are not.
	l.Enter(9, 0, []api.Move{on(30*7 + 29)})
	if order, e := l.Order(wishes); e != api.ErrOpen || len(order) > 0 {
		t.Error(len(order), e)
	}
	blocked := func(moves ...int) api.Errno {
		var some []api.Wish
		for i, n := range moves {
			some = append(some, api.Wish{Name: i + 1, Moves: wishes[i].Moves[:n]})
		}
		_, e := l.Order(append(some, api.Wish{Name: 8, Moves: wishes[7].Moves}))
		return e
	}
	// The car 8 can make 27 of its 29 steps: before the last rail it is in the way of the car 9. So there are 28 times (n + 1) .. states.
	for _, c := range []struct {
		moves []int
		want  api.Errno
	}{{[]int{24, 27}, api.ErrNone}, {[]int{24, 28}, api.ErrOpen}, {[]int{25, 26}, api.ErrNone}, {[]int{25, 27}, api.ErrOpen}} {
		states := 28 * (c.moves[0] + 1) * (c.moves[1] + 1)
		if e := blocked(c.moves...); e != c.want {
			t.Error(c, states, e)
		}
	}
	// With the car 9 nearer, there are exactly as many states as may be looked at: 25 times 20 times 20 times 2.
	if e := l.Remove(9); e != api.OK {
		t.Error(e)
	}
	l.Enter(9, 0, []api.Move{on(30*7 + 26)})
	if e := blocked(19, 19, 1); e != api.ErrNone {
		t.Error(e)
	}
	if e := blocked(19, 19, 2); e != api.ErrOpen {
		t.Error(e)
	}
}

// TestConsequences is for P5.6: what may be granted may be granted without another car, too.
func TestConsequences(t *testing.T) {
	for seed := range 200 {
		s := setup(seed)
		l, m, r := open(t, s), newModel(s), sample.New(seed+9000)
		for range 30 {
			command(t, r, l, m, map[api.RefusalKind]int{})
		}
		cars := l.Cars()
		if len(cars) < 2 {
			continue
		}
		c, other := cars[0], cars[1+r.Below(len(cars)-1)]
		next, _ := track.Next(s.Plan, c.Way[len(c.Way)-1])
		for _, x := range next {
			before := m.refusal(c, x)
			less := m.copied()
			delete(less.cars, other.Name)
			if after := less.refusal(c, x); before.Kind == 0 && after.Kind != 0 {
				t.Fatal(seed, c, x, after)
			}
			if before.Kind == 0 {
				if e := l.Remove(other.Name); e != api.OK && e != api.ErrNone {
					t.Fatal(seed, e)
				}
				if refusal, e := l.Ask(c.Name, x); e != api.OK {
					t.Fatal(seed, refusal, e)
				}
				break
			}
		}
	}
	// Two cars far away from each other never refuse anything to each other.
	p := api.LockSetup{Plan: sample.Lines([]api.Spot{{}, {X: 1000}}, []api.Spot{{Y: 5000}, {X: 1000, Y: 5000}}), Profiles: []api.Profile{{Half: 2000, Swing: 1500}}}
	l := open(t, p)
	_, e0 := l.Enter(1, 0, []api.Move{on(0)})
	_, e1 := l.Enter(2, 0, []api.Move{on(1)})
	if e0 != api.OK || e1 != api.OK || !lock.Safe(p, l.Cars(), l.Points()) {
		t.Error(e0, e1)
	}
}
