package comm

import (
	"slices"

	"leafmesh/api"
)

// flagged is a content whose first byte is a flag, and whose last bytes are a number.
type flagged struct {
	is bool
	n  uint32
}

// election is the content of an election community.
type election struct{ alg, pref int }

// Targets returns the numbers of the fabric's route targets.
func Targets(l []api.Comm) []uint32 {
	var list []uint32
	for _, c := range l {
		n := contentOf(c)
		if Kind(c) == kindTarget && n>>asBit == api.FabricAS {
			list = append(list, uint32(n))
		}
	}
	slices.Sort(list)
	return slices.Compact(list)
}

// EncapOf returns the tunnel type.
func EncapOf(l []api.Comm) (kind int, found bool) {
	return first(l, kindEncap, func(content uint64) int { return int(uint16(content)) })
}

// MobilityOf returns the sequence number.
func MobilityOf(l []api.Comm) (sticky bool, seq uint32, found bool) {
	m, found := first(l, kindMobility, func(content uint64) flagged {
		return flagged{isFlagged(content), uint32(content)}
	})
	return m.is, m.n, found
}

// LabelOf returns the label of a segment.
func LabelOf(l []api.Comm) (single bool, label uint32, found bool) {
	m, found := first(l, kindLabel, func(content uint64) flagged {
		return flagged{isFlagged(content), uint32(content & api.MaxVNI)}
	})
	return m.is, m.n, found
}

// ImportOf returns the import target.
func ImportOf(l []api.Comm) (api.MAC, bool) {
	return first(l, kindImport, address)
}

// RouterOf returns the router address.
func RouterOf(l []api.Comm) (api.MAC, bool) {
	return first(l, kindRouter, address)
}

// ElectionOf returns the algorithm and the preference.
func ElectionOf(l []api.Comm) (alg, pref int, found bool) {
	e, found := first(l, kindElection, func(content uint64) election {
		return election{int(content >> firstBit & maxAlgorithm), int(uint16(content))}
	})
	return e.alg, e.pref, found
}

// first returns what decode reads from the content of the first community of a kind, and whether there is one.
func first[V any](l []api.Comm, kind int, decode func(content uint64) V) (V, bool) {
	for _, c := range l {
		if Kind(c) == kind {
			return decode(contentOf(c)), true
		}
	}
	var none V
	return none, false
}

// isFlagged inverts flag; other bits than the lowest one of the first byte do not matter.
func isFlagged(content uint64) bool {
	return content>>firstBit&1 != 0
}

// address returns the hardware address that a content is.
func address(content uint64) api.MAC {
	return api.MAC(content)
}
