package topo

import (
	"slices"
	"testing"

	"leafmesh/api"
)

// P9.3, P9.4: a set has room for the number of each link, and keeps them apart; below and all agree with has.
func TestBitset(t *testing.T) {
	for i := range api.MaxLinks {
		var s bitset
		s.set(i, true)
		for j := range api.MaxLinks {
			if s.has(j) != (i == j) {
				t.Errorf("the set of %d has %d: %v", i, j, s.has(j))
			}
		}
		if all := slices.Collect(s.all()); !slices.Equal(all, []int{i}) {
			t.Errorf("the set of %d has %v", i, all)
		}
		full := below(api.MaxLinks)
		full.set(i, false)
		first := below(i)
		for n := range full.all() {
			if n < i != first.has(n) || n == i {
				t.Errorf("below(%d) has %d: %v", i, n, first.has(n))
			}
		}
		s.set(i, false)
		if s != (bitset{}) {
			t.Errorf("the set without %d is %v", i, s)
		}
	}
}

// P9.4: an iterator ends where its loop does.
func TestIteratorsEnd(t *testing.T) {
	set := below(api.MaxLinks)
	g, _ := New(3, []api.Link{{A: 0, B: 1, Cost: 1}, {A: 1, B: 2, Cost: 1}})
	for stop := range 3 {
		next := 0
		for n := range set.all() {
			if n != next {
				t.Errorf("%d, want %d", n, next)
			}
			if next++; n == stop {
				break
			}
		}
		seen := 0
		for range g.reached(0) {
			if seen++; seen == stop+1 {
				break
			}
		}
		if next != stop+1 || seen != stop+1 {
			t.Errorf("the loops end after %d and %d, want %d", next, seen, stop+1)
		}
	}
}
