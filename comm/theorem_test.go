package comm_test

import (
	"bytes"
	"math"
	"math/rand"
	"slices"
	"testing"

	"leafmesh/api"
	"leafmesh/comm"
)

// someComm returns a community that often equals another one, and often differs from it in one place.
func someComm(random *rand.Rand) api.Comm {
	c := api.Comm{0x06, byte(random.Intn(8))}
	for range random.Intn(3) {
		c[random.Intn(8)] = []byte{0, 1, 0x7f, 0x80, 0xff}[random.Intn(5)]
	}
	return c
}

func someComms(random *rand.Rand) []api.Comm {
	list := make([]api.Comm, random.Intn(20))
	for i := range list {
		list[i] = someComm(random)
	}
	return list
}

// wantOne checks that a constructor has returned no error, and what the getters return for its community.
func wantOne(t *testing.T, want content, c api.Comm, err api.Errno) {
	t.Helper()
	if err != api.OK {
		t.Errorf("the constructor returns %v", err)
	}
	wantContent(t, want, c)
}

// checkReadsBack checks that the numbers that are given to the constructors, as far as they fit, come back from the getters.
func checkReadsBack(t *testing.T, flag bool, n uint64) {
	t.Helper()
	wantList(t, comm.Targets([]api.Comm{comm.Target(api.FabricAS, uint32(n))}), uint32(n))
	wantOne(t, content{sticky: flag, seq: uint32(n), hasMobility: true}, comm.Mobility(flag, uint32(n)), api.OK)
	kind, label, m, alg := int(n%65536), uint32(n%(api.MaxVNI+1)), api.MAC(n%(api.MaxMAC+1)), int(n%32)
	c, err := comm.Encap(kind)
	wantOne(t, content{encap: kind, hasEncap: true}, c, err)
	c, err = comm.Label(flag, label)
	wantOne(t, content{single: flag, label: label, hasLabel: true}, c, err)
	c, err = comm.Import(m)
	wantOne(t, content{imported: m, hasImport: true}, c, err)
	c, err = comm.Router(m)
	wantOne(t, content{router: m, hasRouter: true}, c, err)
	c, err = comm.Election(alg, kind)
	wantOne(t, content{alg: alg, pref: kind, hasElection: true}, c, err)
}

// P3.5: the getters return what the constructors were given.
func TestReadsBack(t *testing.T) {
	random := rand.New(rand.NewSource(1))
	for _, flag := range []bool{false, true} {
		for bit := range 64 {
			checkReadsBack(t, flag, 1<<bit)
			checkReadsBack(t, flag, 1<<bit-1)
			checkReadsBack(t, flag, math.MaxUint64^1<<bit)
		}
		for range 500 {
			checkReadsBack(t, flag, random.Uint64()>>random.Intn(64))
		}
	}
}

// P3.6: sorting what is sorted changes nothing.
func TestSortTwice(t *testing.T) {
	random := rand.New(rand.NewSource(2))
	for range 500 {
		once := comm.Sort(someComms(random))
		wantList(t, comm.Sort(once), once...)
	}
}

// P3.4, P3.6: the result contains the communities of the list, no others, and each of them less than the next one.
func TestSorted(t *testing.T) {
	random := rand.New(rand.NewSource(3))
	for range 500 {
		list := someComms(random)
		sorted := comm.Sort(list)
		for _, c := range list {
			if !slices.Contains(sorted, c) {
				t.Errorf("% x is missing in % x", c, sorted)
			}
		}
		for i, c := range sorted {
			if !slices.Contains(list, c) {
				t.Errorf("% x is not in % x", c, list)
			}
			if i > 0 && bytes.Compare(sorted[i-1][:], c[:]) >= 0 {
				t.Errorf("not ascending: % x", sorted)
			}
		}
	}
}

// P3.6: neither the order of a list nor how often a community is in it matters.
func TestSortOfSets(t *testing.T) {
	random := rand.New(rand.NewSource(4))
	for range 500 {
		list := someComms(random)
		other := slices.Clone(list)
		for range random.Intn(len(list) + 1) {
			other = append(other, list[random.Intn(len(list))])
		}
		random.Shuffle(len(other), func(i, j int) { other[i], other[j] = other[j], other[i] })
		wantList(t, comm.Sort(other), comm.Sort(list)...)
	}
}

// P1, P2, P3.2, P3.3: whatever the communities are, the getters say that there is one exactly if Kind does, and the same each time.
func TestAnyComms(t *testing.T) {
	random := rand.New(rand.NewSource(5))
	for range 500 {
		list := someComms(random)
		var seen [8]bool
		for _, c := range list {
			seen[comm.Kind(c)] = true
		}
		x := contentOf(list)
		got := [8]bool{seen[0], seen[1], x.hasEncap, x.hasMobility, x.hasLabel, x.hasImport, x.hasRouter, x.hasElection}
		if got != seen {
			t.Errorf("of % x: found %v, want %v", list, got, seen)
		}
		if again := contentOf(list); again != x {
			t.Errorf("of % x: first %+v, then %+v", list, x, again)
		}
	}
}
