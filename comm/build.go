package comm

import (
	"math"

	"leafmesh/api"
)

// maxAlgorithm is the greatest number of an election's algorithm.
const maxAlgorithm = 31

// Target returns a route target.
func Target(as uint16, n uint32) api.Comm {
	return build(kindTarget, uint64(as)<<asBit|uint64(n))
}

// Encap returns an encapsulation community.
func Encap(kind int) (api.Comm, api.Errno) {
	if !within(kind, math.MaxUint16) {
		return api.Comm{}, api.ErrRange
	}
	return build(kindEncap, uint64(kind)), api.OK
}

// Mobility returns a mobility community.
func Mobility(sticky bool, seq uint32) api.Comm {
	return build(kindMobility, flag(sticky)|uint64(seq))
}

// Label returns a label community.
func Label(single bool, label uint32) (api.Comm, api.Errno) {
	if label > api.MaxVNI {
		return api.Comm{}, api.ErrRange
	}
	return build(kindLabel, flag(single)|uint64(label)), api.OK
}

// Import returns an import target.
func Import(m api.MAC) (api.Comm, api.Errno) {
	return hardware(kindImport, m)
}

// Router returns a router address community.
func Router(m api.MAC) (api.Comm, api.Errno) {
	return hardware(kindRouter, m)
}

// Election returns an election community.
func Election(alg, pref int) (api.Comm, api.Errno) {
	if !within(alg, maxAlgorithm) || !within(pref, math.MaxUint16) {
		return api.Comm{}, api.ErrRange
	}
	return build(kindElection, uint64(alg)<<firstBit|uint64(pref)), api.OK
}

func within(n, greatest int) bool {
	return n >= 0 && n <= greatest
}

// flag returns the content whose first byte says whether something is so.
func flag(is bool) uint64 {
	if is {
		return 1 << firstBit
	}
	return 0
}

// hardware returns the community of a kind whose content is a hardware address.
func hardware(kind int, m api.MAC) (api.Comm, api.Errno) {
	if m > api.MaxMAC {
		return api.Comm{}, api.ErrRange
	}
	return build(kind, uint64(m)), api.OK
}
