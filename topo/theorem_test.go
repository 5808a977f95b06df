package topo_test

import (
	"math/rand"
	"slices"
	"testing"

	"leafmesh/api"
	"leafmesh/topo"
)

// P9.3, P9.4: graphs of all sizes, with some nodes and links down, are what their models say, and so are their copies.
func TestAnyGraph(t *testing.T) {
	random := rand.New(rand.NewSource(1))
	for range 400 {
		g, m := someGraph(t, random)
		wantGraph(t, g, m)
		wantGraph(t, g.Copy(), m)
	}
}

// P9.5: each node that is up is in one component, which is its own; the nodes of a link that can be used are in the same one.
func TestComponentsPart(t *testing.T) {
	random := rand.New(rand.NewSource(2))
	for range 500 {
		g, m := someGraph(t, random)
		all := g.Components()
		place := map[int]int{}
		count := map[int]int{}
		for i, list := range all {
			if len(list) == 0 || !slices.IsSorted(list) || i > 0 && all[i-1][0] >= list[0] {
				t.Errorf("Components = %v", all)
			}
			for _, n := range list {
				place[n] = i
				count[n]++
			}
		}
		for n := range m.nodeUp {
			if m.nodeUp[n] != (count[n] == 1) || !m.nodeUp[n] && count[n] > 0 {
				t.Errorf("the node %d is in %d components of %v", n, count[n], all)
			}
			if m.nodeUp[n] {
				wantList(t, "Component", g.Component(n), all[place[n]]...)
			}
		}
		for i, l := range m.links {
			if g.Up(i) && place[l.A] != place[l.B] {
				t.Errorf("the link %d leads out of its component in %v", i, all)
			}
		}
	}
}

// lost returns the lists of a that are not in b.
func lost(a, b [][]int) [][]int {
	return slices.DeleteFunc(slices.Clone(a), func(x []int) bool {
		return slices.ContainsFunc(b, func(y []int) bool { return slices.Equal(x, y) })
	})
}

// P9.6: a link that goes down splits at most one component, into two; when it is up again, so are the components.
func TestLinkDownSplits(t *testing.T) {
	random := rand.New(rand.NewSource(3))
	splits, others := 0, 0
	for range 200 {
		g, m := someGraph(t, random)
		for i := range m.links {
			if !m.linkUp[i] {
				continue
			}
			before := g.Components()
			setLink(t, g, m, i, false)
			after := g.Components()
			gone, come := lost(before, after), lost(after, before)
			switch {
			case len(gone) == 0 && len(come) == 0:
				others++
			case len(gone) == 1 && len(come) == 2:
				splits++
				wantList(t, "the parts", slices.Sorted(slices.Values(slices.Concat(come...))), gone[0]...)
			default:
				t.Errorf("without the link %d %v becomes %v", i, before, after)
			}
			setLink(t, g, m, i, true)
			wantLists(t, "Components", g.Components(), before...)
		}
	}
	if splits < 500 || others < 500 {
		t.Errorf("the test has %d links that split a component and %d others", splits, others)
	}
}

// P9.7: only the last call for each link and for each node counts, not the order of the calls, nor what was asked or refused in between.
func TestLastCallCounts(t *testing.T) {
	random := rand.New(rand.NewSource(4))
	for range 100 {
		nodes := 1 + random.Intn(api.MaxNodes)
		links := someLinks(random, nodes, api.MaxLinks)
		g, m := newGraph(t, nodes, links...)
		for range random.Intn(400) {
			x, up := random.Intn(140)-5, random.Intn(2) == 0
			switch random.Intn(6) {
			case 0, 1:
				if err := g.SetNode(x, up); err == api.OK {
					m.nodeUp[x] = up
				}
			case 2, 3:
				if err := g.SetLink(x, up); err == api.OK {
					m.linkUp[x] = up
				}
			case 4:
				g.Components()
			case 5:
				g = g.Copy()
			}
		}
		wantGraph(t, g, m)
		wantGraph(t, direct(t, random, m), m)
	}
}

// direct returns a graph with the state of a model, set by one call for each link and node, in any order.
func direct(t *testing.T, random *rand.Rand, m model) *topo.Graph {
	t.Helper()
	g, _ := newGraph(t, len(m.nodeUp), m.links...)
	for _, x := range random.Perm(len(m.nodeUp) + len(m.links)) {
		if n := x - len(m.links); n >= 0 {
			wantErr(t, g.SetNode(n, m.nodeUp[n]), api.OK)
		} else {
			wantErr(t, g.SetLink(x, m.linkUp[x]), api.OK)
		}
	}
	return g
}

// newError returns the error of New, as the chapter says it.
func newError(nodes int, links []api.Link) api.Errno {
	if nodes < 1 || nodes > 32 {
		return api.ErrRange
	}
	if len(links) > 128 {
		return api.ErrLong
	}
	for _, l := range links {
		if min(l.A, l.B) < 0 || max(l.A, l.B) >= nodes || l.Cost < 1 || l.Cost > 1000 {
			return api.ErrRange
		}
		if l.A == l.B {
			return api.ErrLoop
		}
	}
	return api.OK
}

// P1, P2, P9.1: whatever the arguments are, New returns a graph or the error that counts, the same each time.
func TestAnyArguments(t *testing.T) {
	random := rand.New(rand.NewSource(5))
	seen := map[api.Errno]int{}
	for range 5000 {
		nodes := 1 + random.Intn(40)
		links := someLinks(random, nodes, 140)
		for range random.Intn(3) {
			wrong := api.Link{A: random.Intn(nodes + 1), B: random.Intn(nodes + 1), Cost: random.Intn(1100) - 20}
			if random.Intn(5) == 0 {
				wrong.A = int(random.Uint64() >> random.Intn(64))
			}
			links = slices.Insert(links, random.Intn(len(links)+1), wrong)
		}
		want := newError(nodes, links)
		seen[want]++
		g, err := topo.New(nodes, links)
		again, second := topo.New(nodes, links)
		if err != want || second != want || (g != nil) != (want == api.OK) || (again != nil) != (want == api.OK) {
			t.Errorf("New(%d, %v) = %v, %v, then %v, %v, want %v", nodes, links, g, err, again, second, want)
		}
	}
	for _, err := range []api.Errno{api.OK, api.ErrRange, api.ErrLong, api.ErrLoop} {
		if seen[err] < 50 {
			t.Errorf("the test has the error %v %d times", err, seen[err])
		}
	}
}
