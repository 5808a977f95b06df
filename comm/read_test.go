package comm_test

import (
	"math"
	"slices"
	"testing"

	"leafmesh/api"
	"leafmesh/comm"
)

// content is what the getters other than Targets return for a list, with the zero values that they return if they find nothing.
type content struct {
	encap                             int
	sticky, single                    bool
	seq, label                        uint32
	imported, router                  api.MAC
	alg, pref                         int
	hasEncap, hasMobility, hasLabel   bool
	hasImport, hasRouter, hasElection bool
}

func contentOf(l []api.Comm) content {
	var x content
	x.encap, x.hasEncap = comm.EncapOf(l)
	x.sticky, x.seq, x.hasMobility = comm.MobilityOf(l)
	x.single, x.label, x.hasLabel = comm.LabelOf(l)
	x.imported, x.hasImport = comm.ImportOf(l)
	x.router, x.hasRouter = comm.RouterOf(l)
	x.alg, x.pref, x.hasElection = comm.ElectionOf(l)
	return x
}

// wantContent checks what all getters other than Targets return.
func wantContent(t *testing.T, want content, l ...api.Comm) {
	t.Helper()
	if got := contentOf(l); got != want {
		t.Errorf("of % x: got %+v, want %+v", l, got, want)
	}
}

// P3.3: the examples of the chapter.
func TestGetterExamples(t *testing.T) {
	wantList(t, comm.Targets([]api.Comm{comm.Target(65000, 9), comm.Target(1, 5), comm.Target(65000, 7), comm.Target(65000, 9)}), 7, 9)
	wantContent(t, content{sticky: true, seq: 3, hasMobility: true}, comm.Mobility(true, 3), comm.Mobility(false, 9))
}

// P3.3: the numbers of targets are ascending as numbers without sign, each of them once.
func TestTargets(t *testing.T) {
	var list []api.Comm
	for _, n := range []uint32{5, math.MaxUint32, 0, 1 << 31, 5, 0x01020304, 1, 256, math.MaxInt32, 0, math.MaxUint32, 255} {
		list = append(list, comm.Target(65000, n))
	}
	wantList(t, comm.Targets(list), 0, 1, 5, 255, 256, 0x01020304, math.MaxInt32, 1<<31, math.MaxUint32)
	slices.Reverse(list)
	wantList(t, comm.Targets(list), 0, 1, 5, 255, 256, 0x01020304, math.MaxInt32, 1<<31, math.MaxUint32)
}

// P3.3: a target with another AS number, even in one bit, does not count, nor does a community of another kind with the same bytes behind its type.
func TestTargetsOfOthers(t *testing.T) {
	var list []api.Comm
	for bit := range 16 {
		list = append(list, comm.Target(65000^1<<bit, 7))
	}
	list = append(list, comm.Target(0, 7), comm.Target(math.MaxUint16, 65000))
	for bit := range 16 {
		c := comm.Target(65000, 7)
		c[bit/8] ^= 1 << (bit % 8)
		list = append(list, c)
	}
	for code := range types {
		if code != [2]byte{0x00, 0x02} {
			list = append(list, api.Comm{code[0], code[1], 0xfd, 0xe8, 7: 7})
		}
	}
	wantList(t, comm.Targets(list))
	wantList(t, comm.Targets(append(list, comm.Target(65000, 3))), 3)
	wantList(t, comm.Targets(nil))
	wantList(t, comm.Targets([]api.Comm{}))
}

// P3.3: the content of a community of each kind is found by the getter of that kind alone.
func TestGetters(t *testing.T) {
	built := builtOf(t)
	want := []content{
		{},
		{encap: 8, hasEncap: true},
		{sticky: true, seq: 0x06070809, hasMobility: true},
		{single: true, label: 0x010203, hasLabel: true},
		{imported: 0x0a0b0c0d0e0f, hasImport: true},
		{router: 0x020000000003, hasRouter: true},
		{alg: 2, pref: 0x0405, hasElection: true},
	}
	for i, c := range built {
		wantContent(t, want[i], c)
		if got := comm.Targets([]api.Comm{c}); len(got) > 0 != (i == 0) {
			t.Errorf("Targets of % x = %v", c, got)
		}
	}
}

// P3.3: getters find communities of their kinds anywhere in a list.
func TestGettersOfMany(t *testing.T) {
	want := content{
		encap: 8, hasEncap: true,
		sticky: true, seq: 0x06070809, hasMobility: true,
		single: true, label: 0x010203, hasLabel: true,
		imported: 0x0a0b0c0d0e0f, hasImport: true,
		router: 0x020000000003, hasRouter: true,
		alg: 2, pref: 0x0405, hasElection: true,
	}
	list := append(builtOf(t), api.Comm{}, api.Comm{0x06, 0x04, 1, 1, 1, 1, 1, 1})
	for range list {
		list = append(list[1:], list[0])
		wantContent(t, want, list...)
		wantList(t, comm.Targets(list), 7)
	}
}

// P3.3: without a community of a kind, its getter returns zero values.
func TestGettersOfNone(t *testing.T) {
	wantContent(t, content{})
	if got := contentOf([]api.Comm{}); got != (content{}) {
		t.Errorf("of an empty list: %+v", got)
	}
	var others []api.Comm
	for high := range 256 {
		for low := range 256 {
			code := [2]byte{byte(high), byte(low)}
			if types[code] == 0 {
				others = append(others, api.Comm{code[0], code[1], 0xff, 0xff, 0xff, 0xff, 0xff, 0xff})
			}
		}
	}
	wantContent(t, content{}, others...)
	wantList(t, comm.Targets(others))
}

// P3.3: the first community of a kind counts, also if its content is zero, or a later one is smaller or greater.
func TestFirst(t *testing.T) {
	zero := content{hasEncap: true, hasMobility: true, hasLabel: true, hasImport: true, hasRouter: true, hasElection: true}
	full := content{
		encap: 65535, hasEncap: true,
		sticky: true, seq: math.MaxUint32, hasMobility: true,
		single: true, label: api.MaxVNI, hasLabel: true,
		imported: api.MaxMAC, hasImport: true,
		router: api.MaxMAC, hasRouter: true,
		alg: 31, pref: 65535, hasElection: true,
	}
	var zeros, ones []api.Comm
	for code := range types {
		zeros = append(zeros, api.Comm{code[0], code[1]})
		ones = append(ones, api.Comm{code[0], code[1], 0xff, 0xff, 0xff, 0xff, 0xff, 0xff})
	}
	wantContent(t, zero, zeros...)
	wantContent(t, full, ones...)
	wantContent(t, zero, slices.Concat(zeros, ones)...)
	wantContent(t, full, slices.Concat(ones, zeros, ones)...)
}

// P3.3: each bit behind the type has the meaning that the chapter gives to it, and the bits to which it gives none do not matter.
func TestBits(t *testing.T) {
	for bit := range 48 {
		n := uint64(1) << bit
		at := func(high, low byte) api.Comm {
			c := api.Comm{high, low}
			c[7-bit/8] = byte(1 << (bit % 8))
			return c
		}
		flag := bit == 40
		wantContent(t, content{hasEncap: true, encap: int(n & 0xffff)}, at(0x03, 0x0c))
		wantContent(t, content{hasMobility: true, sticky: flag, seq: uint32(n & 0xffffffff)}, at(0x06, 0x00))
		wantContent(t, content{hasLabel: true, single: flag, label: uint32(n & 0xffffff)}, at(0x06, 0x01))
		wantContent(t, content{hasImport: true, imported: api.MAC(n)}, at(0x06, 0x02))
		wantContent(t, content{hasRouter: true, router: api.MAC(n)}, at(0x06, 0x03))
		wantContent(t, content{hasElection: true, alg: int(n >> 40 & 31), pref: int(n & 0xffff)}, at(0x06, 0x06))
	}
}

// P3.3: a flag is the lowest bit of its byte, whatever the others are, and an algorithm the lowest five.
func TestFirstBytes(t *testing.T) {
	for b := range 256 {
		flag := b%2 == 1
		wantContent(t, content{hasMobility: true, sticky: flag, seq: 0x01020304}, api.Comm{0x06, 0x00, byte(b), 0xee, 1, 2, 3, 4})
		wantContent(t, content{hasLabel: true, single: flag, label: 0x010203}, api.Comm{0x06, 0x01, byte(b), 0xee, 0xee, 1, 2, 3})
		wantContent(t, content{hasElection: true, alg: b % 32, pref: 0x0102}, api.Comm{0x06, 0x06, byte(b), 0xee, 0xee, 0xee, 1, 2})
	}
}

// R4, P3.3: the getters do not change a list, and the numbers that Targets returns are in new memory each time.
func TestGettersShareNothing(t *testing.T) {
	list := []api.Comm{comm.Target(65000, 9), comm.Mobility(true, 3), comm.Target(65000, 7), comm.Target(65000, 9)}
	before := slices.Clone(list)
	first := comm.Targets(list)
	contentOf(list)
	wantList(t, list, before...)
	second := comm.Targets(list)
	clear(first)
	wantList(t, second, 7, 9)
	wantList(t, comm.Targets(list), 7, 9)
}
