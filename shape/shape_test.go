package shape

import (
	"slices"
	"testing"

	"tramline/api"
)

func TestRoot(t *testing.T) {
	for r := 1; r <= MostDistance; r += 1 + r/1000 {
		if root(r*r-1) != r-1 || root(r*r) != r || root(r*r+1) != r {
			t.Error(r)
		}
	}
}

func TestDistance(t *testing.T) {
	for _, x := range []struct {
		dx, dy, want int
		ok           bool
	}{{0, 0, 0, false}, {1, 0, 1, true}, {-1, -1, 1, true}, {3, -4, 5, true}, {1000000, 1414, 1000000, true}, {1000000, 1415, 0, false}, {0, 1000001, 0, false}, {20000000, -20000000, 0, false}} {
		if n, ok := Distance(api.Spot{X: -7, Y: 3}, api.Spot{X: x.dx - 7, Y: x.dy + 3}); n != x.want || ok != x.ok {
			t.Error(x, n, ok)
		}
	}
}

func TestLine(t *testing.T) {
	p := api.Plan{Nodes: []api.Node{{Spot: api.Spot{X: 1}}, {Spot: api.Spot{X: 2}}}, Rails: []api.Rail{{From: 1, Shape: []api.Spot{{X: 3}}}}}
	if l := Line(p, 0); !slices.Equal(l, []api.Spot{{X: 2}, {X: 3}, {X: 1}}) {
		t.Error(l)
	}
}

func TestLength(t *testing.T) {
	line := []api.Spot{{X: -1}, {X: 2, Y: 4}, {X: 3, Y: 5}, {X: 3, Y: 15}}
	if n, ok := Length(line); n != 5+1+10 || !ok {
		t.Error(n, ok)
	}
	if n, ok := Length(line[:2]); n != 5 || !ok {
		t.Error(n, ok)
	}
	if n, ok := Length(append(line, line[3])); n != 0 || ok {
		t.Error(n, ok)
	}
}
