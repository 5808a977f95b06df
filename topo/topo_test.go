package topo_test

import (
	"math"
	"slices"
	"testing"

	"leafmesh/api"
	"leafmesh/topo"
)

// The links of the chapter's examples.
var exampleLinks = []api.Link{{A: 0, B: 2, Cost: 1}, {A: 1, B: 2, Cost: 5}, {A: 0, B: 3, Cost: 1}, {A: 1, B: 2, Cost: 7}}

// wantNoGraph checks that New returns an error.
func wantNoGraph(t *testing.T, want api.Errno, nodes int, links ...api.Link) {
	t.Helper()
	if g, err := topo.New(nodes, links); g != nil || err != want {
		t.Errorf("New(%d, %v) = %v, %v, want %v", nodes, links, g, err, want)
	}
}

// The chapter's examples.
func TestExamples(t *testing.T) {
	g, _ := newGraph(t, 4, exampleLinks...)
	wantList(t, "Neighbors(2)", g.Neighbors(2), api.Edge{Link: 0, Node: 0, Cost: 1}, api.Edge{Link: 1, Node: 1, Cost: 5}, api.Edge{Link: 3, Node: 1, Cost: 7})
	wantList(t, "Between(2, 1)", g.Between(2, 1), 1, 3)
	wantList(t, "Component(0)", g.Component(0), 0, 1, 2, 3)

	wantErr(t, g.SetLink(0, false), api.OK)
	wantList(t, "Component(0)", g.Component(0), 0, 3)
	wantLists(t, "Components", g.Components(), []int{0, 3}, []int{1, 2})
	wantList(t, "Flags", g.Flags(), false, true, true, true)

	wantErr(t, g.SetNode(2, false), api.OK)
	wantList(t, "Neighbors(1)", g.Neighbors(1))
	wantLists(t, "Components", g.Components(), []int{0, 3}, []int{1})
	if g.Up(1) || g.Alive(2) {
		t.Error(g.Up(1), g.Alive(2))
	}

	wantErr(t, g.SetNode(2, true), api.OK)
	wantErr(t, g.SetLink(0, true), api.OK)
	wantList(t, "Component(3)", g.Component(3), 0, 1, 2, 3)
	wantErr(t, g.SetLink(4, true), api.ErrRange)
	wantList(t, "Between(2, 2)", g.Between(2, 2))

	wantNoGraph(t, api.ErrRange, 0)
	wantNoGraph(t, api.ErrRange, 2, api.Link{A: 0, B: 2, Cost: 1})
	wantNoGraph(t, api.ErrLoop, 2, api.Link{A: 0, B: 0, Cost: 1})
	wantNoGraph(t, api.ErrRange, 2, api.Link{A: 0, B: 1, Cost: 0})
	wantNoGraph(t, api.ErrLong, 2, slices.Repeat([]api.Link{{A: 0, B: 1, Cost: 1}}, 129)...)
}

// P9.1: a graph has from 1 to 32 nodes, and all of them are up; it need not have links.
func TestNewNodes(t *testing.T) {
	for n := 1; n <= 32; n++ {
		g, m := newGraph(t, n)
		wantGraph(t, g, m)
	}
	if g, err := topo.New(3, []api.Link{}); g == nil || err != api.OK {
		t.Errorf("New(3, []) = %v, %v", g, err)
	}
	for _, n := range append([]int{0}, others...) {
		if n != 31 && n != 32 {
			wantNoGraph(t, api.ErrRange, n)
		}
	}
}

// P9.1: a graph has up to 128 links, all of which are up; several ones may have the same nodes.
func TestNewLinks(t *testing.T) {
	for _, n := range []int{0, 1, 2, 63, 64, 65, 127, 128} {
		var links []api.Link
		for i := range n {
			links = append(links, api.Link{A: i % 7, B: 7 + i%3, Cost: 1 + i})
		}
		g, m := newGraph(t, 10, links...)
		wantGraph(t, g, m)
	}
	for _, n := range []int{129, 130, 256, 70000} {
		wantNoGraph(t, api.ErrLong, 32, slices.Repeat([]api.Link{{A: 0, B: 1, Cost: 1}}, n)...)
	}
}

// P9.1: the ends of a link are nodes of the graph.
func TestNewEnds(t *testing.T) {
	for _, nodes := range []int{1, 2, 5, 31, 32} {
		for _, n := range append([]int{0, 1, 2, 4, 5, 6}, others...) {
			want := api.ErrRange
			if n == 0 {
				want = api.ErrLoop
			}
			if n > 0 && n < nodes {
				g, m := newGraph(t, nodes, api.Link{A: n, B: 0, Cost: 1}, api.Link{A: 0, B: n, Cost: 1})
				wantGraph(t, g, m)
				continue
			}
			wantNoGraph(t, want, nodes, api.Link{A: n, B: 0, Cost: 1})
			wantNoGraph(t, want, nodes, api.Link{A: 0, B: n, Cost: 1})
		}
	}
}

// P9.1: the cost of a link is from 1 to 1,000.
func TestNewCost(t *testing.T) {
	for _, cost := range []int{1, 2, 255, 256, 999, 1000} {
		g, m := newGraph(t, 2, api.Link{A: 1, B: 0, Cost: cost})
		wantGraph(t, g, m)
	}
	for _, cost := range []int{math.MinInt, -1000, -1, 0, 1001, 1002, 1<<16 + 1, 1<<32 + 1, math.MaxInt} {
		wantNoGraph(t, api.ErrRange, 2, api.Link{A: 1, B: 0, Cost: cost})
	}
}

// P9.1, R1: the number of nodes counts first, then that of the links, then the first wrong link, of which the range counts first.
func TestNewOrder(t *testing.T) {
	good, loop, far, free := api.Link{A: 1, B: 0, Cost: 1}, api.Link{A: 1, B: 1, Cost: 1}, api.Link{A: 0, B: 2, Cost: 1}, api.Link{A: 0, B: 1}
	for _, n := range []int{-1, 0, 33} {
		wantNoGraph(t, api.ErrRange, n, loop)
		wantNoGraph(t, api.ErrRange, n, slices.Repeat([]api.Link{loop}, 129)...)
	}
	for _, l := range []api.Link{loop, far, free} {
		wantNoGraph(t, api.ErrLong, 2, slices.Repeat([]api.Link{l}, 129)...)
	}
	wantNoGraph(t, api.ErrLoop, 2, good, loop, far)
	wantNoGraph(t, api.ErrLoop, 2, loop, free)
	wantNoGraph(t, api.ErrRange, 2, good, far, loop)
	wantNoGraph(t, api.ErrRange, 2, free, loop)
	wantNoGraph(t, api.ErrRange, 2, api.Link{A: 1, B: 1})
	wantNoGraph(t, api.ErrRange, 2, api.Link{A: 1, B: 1, Cost: 1001})
	wantNoGraph(t, api.ErrRange, 2, api.Link{A: 2, B: 2, Cost: 1})
	wantNoGraph(t, api.ErrRange, 2, api.Link{A: -1, B: -1, Cost: 1})
	wantNoGraph(t, api.ErrLoop, 2, append(slices.Repeat([]api.Link{good}, 127), loop)...)
	wantNoGraph(t, api.ErrRange, 2, append(slices.Repeat([]api.Link{good}, 127), far)...)
}

// P9.2, P9.3: each link is down and up again, as often as that is said, and no other one changes.
func TestSetLink(t *testing.T) {
	var links []api.Link
	for i := range api.MaxLinks {
		links = append(links, api.Link{A: i % 8, B: 8 + i%5, Cost: 1000 - i})
	}
	g, m := newGraph(t, 13, links...)
	for i := range links {
		for _, up := range []bool{true, false, false, true, true, i%3 == 0} {
			setLink(t, g, m, i, up)
			wantList(t, "Flags", g.Flags(), m.linkUp...)
		}
	}
	wantGraph(t, g, m)
}

// P9.2, P9.3: each node is down and up again, as often as that is said, and no other one changes.
func TestSetNode(t *testing.T) {
	var links []api.Link
	for i := 1; i < api.MaxNodes; i++ {
		links = append(links, api.Link{A: i, B: i / 2, Cost: i})
	}
	g, m := newGraph(t, api.MaxNodes, links...)
	for n := range api.MaxNodes {
		for _, up := range []bool{true, false, false, true, true, n%5 > 0} {
			setNode(t, g, m, n, up)
			for i := range api.MaxNodes {
				if alive := g.Alive(i); alive != m.nodeUp[i] {
					t.Errorf("Alive(%d) = %v", i, alive)
				}
			}
		}
		wantGraph(t, g, m)
	}
}

// P9.2, R3: a link or a node that is not there is out of range, and nothing changes.
func TestSetRange(t *testing.T) {
	for _, nodes := range []int{4, 31, 32} {
		g, m := newGraph(t, nodes, exampleLinks...)
		setLink(t, g, m, 1, false)
		setNode(t, g, m, 3, false)
		for _, x := range append([]int{4, 5}, others...) {
			for _, up := range []bool{false, true} {
				wantErr(t, g.SetLink(x, up), api.ErrRange)
				if x < 0 || x >= nodes {
					wantErr(t, g.SetNode(x, up), api.ErrRange)
				}
			}
		}
		wantGraph(t, g, m)
	}
	g, _ := newGraph(t, 1)
	wantErr(t, g.SetLink(0, true), api.ErrRange)
	wantErr(t, g.SetNode(1, true), api.ErrRange)
}

// P9.2: a link keeps its own state while a node at it is down, and can get another one.
func TestLinkOfNodeDown(t *testing.T) {
	for _, n := range []int{0, 2} {
		g, m := newGraph(t, 4, exampleLinks...)
		setLink(t, g, m, 2, false)
		setNode(t, g, m, n, false)
		wantGraph(t, g, m)
		setNode(t, g, m, n, true)
		wantList(t, "Flags", g.Flags(), true, true, false, true)
		setNode(t, g, m, n, false)
		setLink(t, g, m, 2, true)
		setLink(t, g, m, 0, false)
		wantGraph(t, g, m)
		setNode(t, g, m, n, true)
		wantList(t, "Flags", g.Flags(), false, true, true, true)
	}
}

// P9.3: a link can be used if it and both its nodes are up.
func TestUp(t *testing.T) {
	for states := range 8 {
		g, _ := newGraph(t, 3, api.Link{A: 1, B: 2, Cost: 4}, api.Link{A: 2, B: 1, Cost: 4})
		g.SetLink(0, states&1 != 0)
		g.SetNode(1, states&2 != 0)
		g.SetNode(2, states&4 != 0)
		wantList(t, "Flags", g.Flags(), states == 7, states&6 == 6)
		if g.Up(0) != (states == 7) || g.Up(1) != (states&6 == 6) {
			t.Error(states, g.Up(0), g.Up(1))
		}
	}
}

// P9.3, P9.4: a link or a node that is not there is not up, has no neighbors and is in no component.
func TestOutOfRange(t *testing.T) {
	g, _ := newGraph(t, 4, exampleLinks...)
	for _, x := range append([]int{4, 5}, others...) {
		if g.Up(x) || g.Alive(x) {
			t.Errorf("Up(%d) = %v, Alive(%d) = %v", x, g.Up(x), x, g.Alive(x))
		}
		wantList(t, "Neighbors", g.Neighbors(x))
		wantList(t, "Component", g.Component(x))
		for _, y := range append([]int{0, 2}, others...) {
			wantList(t, "Between", g.Between(x, y))
			wantList(t, "Between", g.Between(y, x))
		}
	}
}

// R2: a nil graph and a zero one stay invalid, whatever is called, and ErrNil comes before the other errors.
func TestInvalidGraphs(t *testing.T) {
	for _, g := range []*topo.Graph{nil, {}, new(topo.Graph)} {
		for _, x := range append([]int{0, 1}, others...) {
			for _, up := range []bool{false, true} {
				wantErr(t, g.SetLink(x, up), api.ErrNil)
				wantErr(t, g.SetNode(x, up), api.ErrNil)
			}
			if g.Up(x) || g.Alive(x) || g.Neighbors(x) != nil || g.Between(x, 0) != nil || g.Between(0, x) != nil || g.Component(x) != nil {
				t.Errorf("%d: %v, %v, %v, %v, %v, %v", x, g.Up(x), g.Alive(x), g.Neighbors(x), g.Between(x, 0), g.Between(0, x), g.Component(x))
			}
		}
		if g.Flags() != nil || g.Nodes() != 0 || g.Links() != nil || g.Components() != nil {
			t.Error(g.Flags(), g.Nodes(), g.Links(), g.Components())
		}
		if c := g.Copy(); c.SetNode(0, true) != api.ErrNil || c.Nodes() != 0 {
			t.Errorf("the copy is %+v", c)
		}
	}
}
