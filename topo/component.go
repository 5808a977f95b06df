package topo

import (
	"iter"
	"slices"

	"leafmesh/api"
)

// Neighbors returns the links at a node that can be used, in the order of their numbers.
func (g *Graph) Neighbors(n int) []api.Edge {
	if !g.Alive(n) {
		return nil
	}
	var edges []api.Edge
	for i, l := range g.links {
		if end, at := across(l, n); at && g.Up(i) {
			edges = append(edges, api.Edge{Link: i, Node: end, Cost: l.Cost})
		}
	}
	return edges
}

// Between returns the links between two nodes that can be used, ascending.
func (g *Graph) Between(a, b int) []int {
	var links []int
	for _, e := range g.Neighbors(a) {
		if e.Node == b {
			links = append(links, e.Link)
		}
	}
	return links
}

// Component returns the nodes of the component of a node, ascending.
func (g *Graph) Component(n int) []int {
	if !g.Alive(n) {
		return nil
	}
	return slices.Sorted(g.reached(n))
}

// Components returns all components, ordered by their smallest nodes.
func (g *Graph) Components() [][]int {
	if !g.valid() {
		return nil
	}
	var list [][]int
	var placed bitset
	for n := range g.nodesUp.all() {
		if placed.has(n) {
			continue
		}
		component := g.Component(n)
		for _, member := range component {
			placed.set(member, true)
		}
		list = append(list, component)
	}
	return list
}

// reached visits the nodes of the component of a node that is up, each once.
func (g *Graph) reached(n int) iter.Seq[int] {
	return func(yield func(int) bool) {
		var found bitset
		found.set(n, true)
		for work := []int{n}; len(work) > 0; work = work[1:] {
			if !yield(work[0]) {
				return
			}
			for _, e := range g.Neighbors(work[0]) {
				if !found.has(e.Node) {
					found.set(e.Node, true)
					work = append(work, e.Node)
				}
			}
		}
	}
}

// across returns the end of a link at which a node is not, if the node is at the other one.
func across(l api.Link, n int) (int, bool) {
	switch n {
	case l.A:
		return l.B, true
	case l.B:
		return l.A, true
	}
	return 0, false
}
