package topo_test

import (
	"slices"
	"testing"

	"leafmesh/api"
	"leafmesh/topo"
)

// P9.4: the links at a node have the node at the other end, whichever end the node is, and the order of their numbers.
func TestNeighbors(t *testing.T) {
	g, m := newGraph(t, 5, api.Link{A: 3, B: 1, Cost: 9}, api.Link{A: 1, B: 0, Cost: 8}, api.Link{A: 0, B: 3, Cost: 7}, api.Link{A: 1, B: 3, Cost: 6}, api.Link{A: 4, B: 1, Cost: 1000})
	wantGraph(t, g, m)
	wantList(t, "Neighbors(1)", g.Neighbors(1), api.Edge{Link: 0, Node: 3, Cost: 9}, api.Edge{Link: 1, Node: 0, Cost: 8}, api.Edge{Link: 3, Node: 3, Cost: 6}, api.Edge{Link: 4, Node: 4, Cost: 1000})
	wantList(t, "Neighbors(2)", g.Neighbors(2))
	setLink(t, g, m, 1, false)
	setNode(t, g, m, 4, false)
	wantGraph(t, g, m)
	wantList(t, "Neighbors(1)", g.Neighbors(1), api.Edge{Link: 0, Node: 3, Cost: 9}, api.Edge{Link: 3, Node: 3, Cost: 6})
	wantList(t, "Neighbors(4)", g.Neighbors(4))
}

// P9.4: the links between two nodes are the same ones from both ends.
func TestBetween(t *testing.T) {
	var links []api.Link
	for i := range 100 {
		links = append(links, api.Link{A: i % 3, B: (i + 1 + i%2) % 3, Cost: 1 + i})
	}
	g, m := newGraph(t, 4, links...)
	for i := range 100 {
		if i%7 == 0 {
			setLink(t, g, m, i, false)
		}
		for a := range 4 {
			for b := range 4 {
				wantList(t, "Between", g.Between(a, b), m.between(a, b)...)
				wantList(t, "Between", g.Between(b, a), m.between(a, b)...)
			}
		}
	}
	wantList(t, "Between(1, 1)", g.Between(1, 1))
	wantList(t, "Between(3, 0)", g.Between(3, 0))
	setNode(t, g, m, 1, false)
	wantList(t, "Between(0, 1)", g.Between(0, 1))
	wantList(t, "Between(1, 0)", g.Between(1, 0))
	wantGraph(t, g, m)
}

// P9.4: a component is in the order of its nodes, however they are reached; a node that is down is in none.
func TestComponent(t *testing.T) {
	g, m := newGraph(t, 6, api.Link{A: 5, B: 0, Cost: 1}, api.Link{A: 4, B: 5, Cost: 1}, api.Link{A: 2, B: 4, Cost: 1})
	for _, n := range []int{0, 2, 4, 5} {
		wantList(t, "Component", g.Component(n), 0, 2, 4, 5)
	}
	wantList(t, "Component(1)", g.Component(1), 1)
	wantLists(t, "Components", g.Components(), []int{0, 2, 4, 5}, []int{1}, []int{3})
	setNode(t, g, m, 5, false)
	wantList(t, "Component(5)", g.Component(5))
	wantLists(t, "Components", g.Components(), []int{0}, []int{1}, []int{2, 4}, []int{3})
	wantGraph(t, g, m)
	for n := range 6 {
		setNode(t, g, m, n, false)
	}
	wantLists(t, "Components", g.Components())
	wantGraph(t, g, m)
}

// P9.4: components are ordered by their smallest nodes, in the longest line of nodes as well, cut anywhere.
func TestComponentsOfLine(t *testing.T) {
	var links []api.Link
	for i := range 31 {
		links = append(links, api.Link{A: 31 - i, B: 30 - i, Cost: 1})
	}
	g, m := newGraph(t, 32, links...)
	wantGraph(t, g, m)
	for i := range 31 {
		setLink(t, g, m, i, false)
		first, last := []int{}, []int{}
		for n := range 32 {
			if n < 31-i {
				first = append(first, n)
			} else {
				last = append(last, n)
			}
		}
		wantLists(t, "Components", g.Components(), first, last)
		setLink(t, g, m, i, true)
	}
	for i := range 31 {
		setLink(t, g, m, i, false)
		wantGraph(t, g, m)
	}
}

// P9.4: a copy and its graph do not depend on each other.
func TestCopy(t *testing.T) {
	g, m := newGraph(t, 4, exampleLinks...)
	setLink(t, g, m, 2, false)
	setNode(t, g, m, 1, false)
	c, other := g.Copy(), m.copy()
	wantGraph(t, c, other)
	setLink(t, g, m, 2, true)
	setNode(t, g, m, 0, false)
	wantGraph(t, c, other)
	setLink(t, c, other, 0, false)
	setNode(t, c, other, 1, true)
	wantGraph(t, g, m)
	wantGraph(t, c, other)
	d := c.Copy()
	wantGraph(t, d, other)
	setNode(t, d, other.copy(), 3, false)
	wantGraph(t, c, other)
}

// P2: graphs of the same links do not depend on each other.
func TestTwoGraphs(t *testing.T) {
	a, first := newGraph(t, 4, exampleLinks...)
	b, second := newGraph(t, 4, exampleLinks...)
	setLink(t, a, first, 3, false)
	setNode(t, b, second, 0, false)
	wantGraph(t, a, first)
	wantGraph(t, b, second)
}

// R4: the links that New gets are neither changed nor kept.
func TestKeepsNoArgument(t *testing.T) {
	memory := append(slices.Clone(exampleLinks), api.Link{A: 7, B: 7, Cost: 7}, api.Link{A: 8, B: 8, Cost: 8})
	want := slices.Clone(memory)
	g, err := topo.New(4, memory[:4])
	wantErr(t, err, api.OK)
	wantErr(t, g.SetLink(1, false), api.OK)
	wantErr(t, g.SetNode(3, false), api.OK)
	c := g.Copy()
	wantList(t, "the argument", memory, want...)
	clear(memory)
	m := model{want[:4], []bool{true, true, true, false}, []bool{true, false, true, true}}
	wantGraph(t, g, m)
	wantGraph(t, c, m)
}

// spoil overwrites a slice and all the memory behind it.
func spoil[T any](list []T, with T) {
	list = list[:cap(list)]
	for i := range list {
		list[i] = with
	}
}

// R4: results share no memory with the graph, with its copies, or with each other.
func TestSharesNothing(t *testing.T) {
	g, m := newGraph(t, 4, exampleLinks...)
	setLink(t, g, m, 0, false)
	c := g.Copy()
	for _, x := range []*topo.Graph{g, c} {
		links, flags, edges, between := x.Links(), x.Flags(), x.Neighbors(2), x.Between(1, 2)
		component, components := x.Component(0), x.Components()
		spoil(x.Links(), api.Link{A: 9, B: 9, Cost: 9})
		spoil(x.Flags(), false)
		spoil(x.Neighbors(2), api.Edge{Link: 9, Node: 9, Cost: 9})
		spoil(x.Between(1, 2), 9)
		spoil(x.Component(0), 9)
		for _, list := range x.Components() {
			spoil(list, 9)
		}
		spoil(x.Components(), []int{9})
		wantList(t, "Links", links, m.links...)
		wantList(t, "Flags", flags, m.linkUp...)
		wantList(t, "Neighbors", edges, m.near(2)...)
		wantList(t, "Between", between, 1, 3)
		wantList(t, "Component", component, 0, 3)
		wantLists(t, "Components", components, []int{0, 3}, []int{1, 2})
		spoil(components[0], 9)
		wantList(t, "the other component", components[1], 1, 2)
		wantList(t, "Component", component, 0, 3)
	}
	wantGraph(t, g, m)
	wantGraph(t, c, m)
}
