package addr

import (
	"cmp"
	"iter"

	"leafmesh/api"
)

// The identifier of a segment: its first byte is the type, and from numberAt on there is the number.
const (
	segmentType = 3
	numberAt    = 6
	esiBytes    = 10
)

// The bytes of an identifier that are its import target.
const (
	importAt  = 1
	importEnd = 7
)

// CompareESI compares two Ethernet segment identifiers.
func CompareESI(a, b api.ESI) int {
	for i, x := range octets(a) {
		if x != b[i] {
			return cmp.Compare(x, b[i])
		}
	}
	return 0
}

// SegmentESI returns the identifier of a segment.
func SegmentESI(s int) (api.ESI, api.Errno) {
	if s < 0 || s >= api.MaxSegments {
		return api.ESI{}, api.ErrRange
	}
	e := api.ESI{segmentType}
	for i, b := range parts(uint32(s)+1, esiBytes-numberAt) {
		e[numberAt+i] = b
	}
	return e, api.OK
}

// ESISegment returns the segment of an identifier.
func ESISegment(e api.ESI) (int, bool) {
	s := int(within[uint32](e, numberAt, esiBytes)) - 1
	own, err := SegmentESI(s)
	if err != api.OK || own != e {
		return 0, false
	}
	return s, true
}

// Import returns the import target of an identifier.
func Import(e api.ESI) api.MAC {
	return within[api.MAC](e, importAt, importEnd)
}

// octets visits the bytes of an identifier with their positions.
func octets(e api.ESI) iter.Seq2[int, byte] {
	return func(yield func(int, byte) bool) {
		for i, b := range e {
			if !yield(i, b) {
				return
			}
		}
	}
}

// within returns the number that the bytes of an identifier from the position start up to end, but not with it, form.
func within[N number](e api.ESI, start, end int) N {
	var n N
	for i, b := range octets(e) {
		if start <= i && i < end {
			n = n<<8 | N(b)
		}
	}
	return n
}
