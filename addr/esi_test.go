package addr_test

import (
	"math"
	"testing"

	"leafmesh/addr"
	"leafmesh/api"
)

// P1.2: identifiers are compared byte by byte, the first one first, as numbers without sign.
func TestCompareESI(t *testing.T) {
	ascending := []api.ESI{
		{}, {9: 1}, {9: 2}, {9: 0x7f}, {9: 0x80}, {9: 0xff}, {8: 1}, {8: 1, 9: 7},
		{5: 1}, {1: 2, 2: 9}, {1: 3}, {0: 1}, {0: 1, 9: 1}, {3, 0, 0, 0, 0, 0, 0, 0, 0, 1}, {0x80}, {0xff},
	}
	checkOrder(t, ascending, addr.CompareESI)
}

// P1.2: each byte counts, and an earlier one more than all later ones.
func TestCompareESIBytes(t *testing.T) {
	for i := range 10 {
		var a, b api.ESI
		a[i] = 1
		for j := i + 1; j < 10; j++ {
			b[j] = 0xff
		}
		if x, y := addr.CompareESI(a, b), addr.CompareESI(b, a); x != 1 || y != -1 {
			t.Errorf("CompareESI at the byte %d: %d, %d", i, x, y)
		}
	}
}

// P1.3: the identifiers of segments, and of no other numbers.
func TestSegmentESI(t *testing.T) {
	for s := range 64 {
		want := api.ESI{3, 0, 0, 0, 0, 0, 0, 0, 0, byte(s + 1)}
		if e, err := addr.SegmentESI(s); e != want || err != api.OK {
			t.Errorf("SegmentESI(%d) = %v, %v", s, e, err)
		}
	}
	for _, s := range []int{-1, -2, 64, 65, 255, 256, 1 << 32, math.MinInt, math.MaxInt} {
		if e, err := addr.SegmentESI(s); e != (api.ESI{}) || err != api.ErrRange {
			t.Errorf("SegmentESI(%d) = %v, %v", s, e, err)
		}
	}
}

// P1.3: ESISegment inverts SegmentESI.
func TestESISegment(t *testing.T) {
	for s := range 64 {
		e, _ := addr.SegmentESI(s)
		if got, ok := addr.ESISegment(e); got != s || !ok {
			t.Errorf("ESISegment(%v) = %d, %v", e, got, ok)
		}
	}
}

// P1.3: an identifier that differs from all those of segments, even in one bit, has no segment.
func TestESISegmentOfOthers(t *testing.T) {
	own := map[api.ESI]bool{}
	for s := range 64 {
		e, _ := addr.SegmentESI(s)
		own[e] = true
	}
	others := []api.ESI{{}, {3}, {9: 1}, {3, 9: 65}, {3, 9: 0xff}, {3, 8: 1}, {3, 8: 1, 9: 1}, {3, 6: 1, 9: 1},
		{3, 6: 0x80}, {3, 6: 0xff, 7: 0xff, 8: 0xff, 9: 0xff}, {3, 6: 0x80, 9: 1}}
	for e := range own {
		for i := range 10 {
			for bit := range 8 {
				x := e
				x[i] ^= 1 << bit
				others = append(others, x)
			}
		}
	}
	for _, e := range others {
		if own[e] {
			continue
		}
		if s, ok := addr.ESISegment(e); s != 0 || ok {
			t.Errorf("ESISegment(%v) = %d, %v", e, s, ok)
		}
	}
}

// P1.3: the import target is the bytes 1 to 6.
func TestImport(t *testing.T) {
	tests := []struct {
		e    api.ESI
		want api.MAC
	}{
		{api.ESI{}, 0},
		{api.ESI{9, 1, 2, 3, 4, 5, 6, 7, 8, 9}, 0x010203040506},
		{api.ESI{0xff, 0, 0, 0, 0, 0, 0, 0xff, 0xff, 0xff}, 0},
		{api.ESI{0, 0xff, 0xff, 0xff, 0xff, 0xff, 0xff, 0, 0, 0}, api.Broadcast},
		{api.ESI{1: 0x80}, 0x800000000000},
		{api.ESI{6: 0x80}, 0x80},
		{api.ESI{3, 9: 5}, 0},
	}
	for _, x := range tests {
		if got := addr.Import(x.e); got != x.want {
			t.Errorf("Import(%v) = %#x", x.e, got)
		}
	}
}
