package topo_test

import (
	"math"
	"math/rand"
	"slices"
	"testing"

	"leafmesh/api"
	"leafmesh/topo"
)

// others are numbers that no node and no link has, or that only some have.
var others = []int{math.MinInt, math.MinInt + 1, -1 << 32, -128, -65, -64, -63, -2, -1, 31, 32, 33, 63, 64, 65, 127, 128, 129, 255, 256, 1 << 32, 1<<32 + 1, math.MaxInt - 1, math.MaxInt}

// model is what a graph must be, without any memory in common with it.
type model struct {
	links          []api.Link
	nodeUp, linkUp []bool
}

// newGraph returns a graph with its model.
func newGraph(t *testing.T, nodes int, links ...api.Link) (*topo.Graph, model) {
	t.Helper()
	g, err := topo.New(nodes, links)
	if g == nil || err != api.OK {
		t.Fatalf("New(%d, %v) = %v, %v", nodes, links, g, err)
	}
	return g, model{slices.Clone(links), slices.Repeat([]bool{true}, nodes), slices.Repeat([]bool{true}, len(links))}
}

func (m model) copy() model {
	return model{slices.Clone(m.links), slices.Clone(m.nodeUp), slices.Clone(m.linkUp)}
}

// alive reports whether a node exists and is up.
func (m model) alive(n int) bool {
	return n >= 0 && n < len(m.nodeUp) && m.nodeUp[n]
}

// up reports whether a link exists and can be used.
func (m model) up(i int) bool {
	return i >= 0 && i < len(m.links) && m.linkUp[i] && m.nodeUp[m.links[i].A] && m.nodeUp[m.links[i].B]
}

// near returns the links at a node that can be used.
func (m model) near(n int) []api.Edge {
	var edges []api.Edge
	for i, l := range m.links {
		if m.up(i) && l.A == n {
			edges = append(edges, api.Edge{Link: i, Node: l.B, Cost: l.Cost})
		} else if m.up(i) && l.B == n {
			edges = append(edges, api.Edge{Link: i, Node: l.A, Cost: l.Cost})
		}
	}
	return edges
}

// between returns the links between two nodes that can be used.
func (m model) between(a, b int) []int {
	var links []int
	for i, l := range m.links {
		if m.up(i) && (l == (api.Link{A: a, B: b, Cost: l.Cost}) || l == (api.Link{A: b, B: a, Cost: l.Cost})) {
			links = append(links, i)
		}
	}
	return links
}

// joined reports for each pair of nodes whether they are in the same component, by way of the closure of a relation.
func (m model) joined() [][]bool {
	is := make([][]bool, len(m.nodeUp))
	for n := range is {
		is[n] = make([]bool, len(is))
		is[n][n] = m.nodeUp[n]
	}
	for i, l := range m.links {
		if m.up(i) {
			is[l.A][l.B], is[l.B][l.A] = true, true
		}
	}
	for via := range is {
		for a := range is {
			for b := range is {
				is[a][b] = is[a][b] || is[a][via] && is[via][b]
			}
		}
	}
	return is
}

// component returns the nodes that are joined with a node.
func component(joined [][]bool, n int) []int {
	var nodes []int
	for m := range joined {
		if n >= 0 && n < len(joined) && joined[n][m] {
			nodes = append(nodes, m)
		}
	}
	return nodes
}

// components returns the components, each at its smallest node.
func components(joined [][]bool) [][]int {
	var all [][]int
	for n := range joined {
		if c := component(joined, n); len(c) > 0 && c[0] == n {
			all = append(all, c)
		}
	}
	return all
}

// setLink sets a link of a graph and of its model.
func setLink(t *testing.T, g *topo.Graph, m model, i int, up bool) {
	t.Helper()
	wantErr(t, g.SetLink(i, up), api.OK)
	m.linkUp[i] = up
}

// setNode sets a node of a graph and of its model.
func setNode(t *testing.T, g *topo.Graph, m model, n int, up bool) {
	t.Helper()
	wantErr(t, g.SetNode(n, up), api.OK)
	m.nodeUp[n] = up
}

func wantErr(t *testing.T, got, want api.Errno) {
	t.Helper()
	if got != want {
		t.Errorf("%v, want %v", got, want)
	}
}

// wantList checks a list; a nil one and an empty one are equal.
func wantList[T comparable](t *testing.T, what string, got []T, want ...T) {
	t.Helper()
	if !slices.Equal(got, want) {
		t.Errorf("%s = %v, want %v", what, got, want)
	}
}

func wantLists(t *testing.T, what string, got [][]int, want ...[]int) {
	t.Helper()
	if !slices.EqualFunc(got, want, slices.Equal) {
		t.Errorf("%s = %v, want %v", what, got, want)
	}
}

// wantGraph checks that a graph answers as its model does, whatever it is asked.
func wantGraph(t *testing.T, g *topo.Graph, m model) {
	t.Helper()
	if n := g.Nodes(); n != len(m.nodeUp) {
		t.Errorf("Nodes = %d, want %d", n, len(m.nodeUp))
	}
	wantList(t, "Links", g.Links(), m.links...)
	var flags []bool
	for i := range m.links {
		flags = append(flags, m.up(i))
	}
	wantList(t, "Flags", g.Flags(), flags...)
	for i := -1; i <= api.MaxLinks; i++ {
		if up := g.Up(i); up != m.up(i) {
			t.Errorf("Up(%d) = %v", i, up)
		}
	}
	joined := m.joined()
	for n := -1; n <= api.MaxNodes; n++ {
		if alive := g.Alive(n); alive != m.alive(n) {
			t.Errorf("Alive(%d) = %v", n, alive)
		}
		wantList(t, "Neighbors", g.Neighbors(n), m.near(n)...)
		wantList(t, "Component", g.Component(n), component(joined, n)...)
		for b := -1; b <= len(m.nodeUp); b++ {
			wantList(t, "Between", g.Between(n, b), m.between(n, b)...)
		}
	}
	wantLists(t, "Components", g.Components(), components(joined)...)
}

// someLinks returns valid links, up to most of them.
func someLinks(random *rand.Rand, nodes, most int) []api.Link {
	var links []api.Link
	for range random.Intn(most + 1) {
		a, b := random.Intn(nodes), random.Intn(nodes)
		if a != b {
			links = append(links, api.Link{A: a, B: b, Cost: 1 + random.Intn(api.MaxCost)})
		}
	}
	return links
}

// someGraph returns a graph with some links and nodes down, and its model; with few links as often as with many.
func someGraph(t *testing.T, random *rand.Rand) (*topo.Graph, model) {
	t.Helper()
	nodes := 1 + random.Intn(api.MaxNodes)
	most := []int{nodes, api.MaxLinks}[random.Intn(2)]
	g, m := newGraph(t, nodes, someLinks(random, nodes, most)...)
	down := random.Intn(4)
	for i := range m.links {
		setLink(t, g, m, i, random.Intn(10) >= down)
	}
	for n := range nodes {
		setNode(t, g, m, n, random.Intn(10) >= down)
	}
	return g, m
}
