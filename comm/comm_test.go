package comm_test

import (
	"slices"
	"testing"

	"leafmesh/api"
	"leafmesh/comm"
)

// types are the types of communities in the chapter, with the numbers of their kinds.
var types = map[[2]byte]int{
	{0x00, 0x02}: 1,
	{0x03, 0x0c}: 2,
	{0x06, 0x00}: 3,
	{0x06, 0x01}: 4,
	{0x06, 0x02}: 5,
	{0x06, 0x03}: 6,
	{0x06, 0x06}: 7,
}

// wantList checks a list; a nil one and an empty one are equal.
func wantList[V comparable](t *testing.T, got []V, want ...V) {
	t.Helper()
	if !slices.Equal(got, want) {
		t.Errorf("got %v, want %v", got, want)
	}
}

// P3.2: each type has its kind or none, whatever the other bytes are.
func TestKind(t *testing.T) {
	bodies := [][6]byte{{}, {1}, {5: 1}, {0x06, 0x00, 0x03, 0x0c, 0x00, 0x02}, {0xff, 0xff, 0xff, 0xff, 0xff, 0xff}}
	for high := range 256 {
		for low := range 256 {
			want := types[[2]byte{byte(high), byte(low)}]
			for _, body := range bodies {
				c := api.Comm{byte(high), byte(low)}
				copy(c[2:], body[:])
				if got := comm.Kind(c); got != want {
					t.Errorf("Kind(% x) = %d, want %d", c, got, want)
				}
			}
		}
	}
}

// P3.1, P3.2: what a constructor returns has its kind.
func TestKindOfBuilt(t *testing.T) {
	for i, c := range builtOf(t) {
		if got := comm.Kind(c); got != i+1 {
			t.Errorf("Kind(% x) = %d, want %d", c, got, i+1)
		}
	}
}

// builtOf returns a community of each kind, in the order of their numbers.
func builtOf(t *testing.T) []api.Comm {
	t.Helper()
	encap, errEncap := comm.Encap(8)
	label, errLabel := comm.Label(true, 0x010203)
	imported, errImport := comm.Import(0x0a0b0c0d0e0f)
	router, errRouter := comm.Router(0x020000000003)
	election, errElection := comm.Election(2, 0x0405)
	for _, err := range []api.Errno{errEncap, errLabel, errImport, errRouter, errElection} {
		if err != api.OK {
			t.Fatal(err)
		}
	}
	return []api.Comm{comm.Target(65000, 7), encap, comm.Mobility(true, 0x06070809), label, imported, router, election}
}

// P3.4: bytes are compared as numbers without sign, the first one first; equal communities become one.
func TestSort(t *testing.T) {
	list := []api.Comm{{7: 2}, {0xff}, {7: 1}, {0x80}, {7: 2}, {0x7f, 7: 0xff}, {}, {7: 0x80}, {7: 2}, {0x80}, {3, 0xff}, {4}}
	wantList(t, comm.Sort(list), []api.Comm{{}, {7: 1}, {7: 2}, {7: 0x80}, {3, 0xff}, {4}, {0x7f, 7: 0xff}, {0x80}, {0xff}}...)
}

// P3.4: each byte counts, and an earlier one more than all later ones.
func TestSortBytes(t *testing.T) {
	for i := range 8 {
		a, b := api.Comm{}, api.Comm{}
		a[i] = 1
		for j := i + 1; j < 8; j++ {
			b[j] = 0xff
		}
		want := []api.Comm{b, a}
		wantList(t, comm.Sort([]api.Comm{a, b}), want...)
		wantList(t, comm.Sort([]api.Comm{b, a}), want...)
		wantList(t, comm.Sort([]api.Comm{a, b, a, b, b}), want...)
	}
}

// P3.4: communities of other types and of each kind are sorted by their bytes alone.
func TestSortKinds(t *testing.T) {
	list := append(builtOf(t), api.Comm{0x00, 0x01, 0xff}, api.Comm{0x06, 0x04}, api.Comm{0xff})
	slices.Reverse(list)
	wantList(t, comm.Sort(list), []api.Comm{
		{0x00, 0x01, 0xff},
		{0x00, 0x02, 0xfd, 0xe8, 0, 0, 0, 7},
		{0x03, 0x0c, 0, 0, 0, 0, 0, 8},
		{0x06, 0x00, 1, 0, 6, 7, 8, 9},
		{0x06, 0x01, 1, 0, 0, 1, 2, 3},
		{0x06, 0x02, 0x0a, 0x0b, 0x0c, 0x0d, 0x0e, 0x0f},
		{0x06, 0x03, 2, 0, 0, 0, 0, 3},
		{0x06, 0x04},
		{0x06, 0x06, 2, 0, 0, 0, 4, 5},
		{0xff},
	}...)
}

// P3.4: lists with one community or none.
func TestSortShort(t *testing.T) {
	wantList(t, comm.Sort(nil))
	wantList(t, comm.Sort([]api.Comm{}))
	wantList(t, comm.Sort([]api.Comm{{}}), api.Comm{})
	wantList(t, comm.Sort([]api.Comm{{5}}), api.Comm{5})
	wantList(t, comm.Sort([]api.Comm{{5}, {5}, {5}}), api.Comm{5})
}

// R4, P3.4: a list is not changed, nor the memory behind it, and the result shares none with it, also if the list is sorted already.
func TestSortSharesNothing(t *testing.T) {
	for _, list := range [][]api.Comm{{{3}, {1}, {2}, {1}}, {{1}, {2}, {3}}, {{1}, {1}}, {{1}}} {
		memory := append(slices.Clone(list), api.Comm{9}, api.Comm{9})
		before, arg := slices.Clone(memory), memory[:len(list)]
		got := comm.Sort(arg)
		wantList(t, memory, before...)
		again := comm.Sort(arg)
		for i := range got {
			got[i] = api.Comm{8}
		}
		got = append(got, api.Comm{8}, api.Comm{8})
		wantList(t, memory, before...)
		wantList(t, comm.Sort(arg), again...)
	}
}
