package vxlan

import (
	"leafmesh/api"
	"leafmesh/wire"
)

// The number with which a hash starts, and the one by which it is multiplied.
const (
	hashStart  = 2166136261
	hashFactor = 16777619
)

// The ports that stand for flows: the first one, and how many there are.
const (
	firstPort = 49152
	portCount = 16384
)

// flowBytes is the number of bytes of a flow, which is the same for all kinds of frames.
const flowBytes = 13

// Hash returns the hash of bytes.
func Hash(b []byte) uint32 { return hash(b) }

// Entropy returns the source port of a frame's flow.
func Entropy(f api.Frame) int {
	return firstPort + int(hash(flow(f))%portCount)
}

// hash returns the hash of the bytes of a slice or a string.
func hash[B []byte | string](b B) uint32 {
	h := uint32(hashStart)
	for i := range len(b) {
		h = (h ^ uint32(b[i])) * hashFactor
	}
	return h
}

// flow returns the flow of a frame, which need not be valid: the writer gets the lowest bytes alone, since it takes no number that does not fit.
func flow(f api.Frame) string {
	w, _ := wire.NewWriter(flowBytes)
	if f.Kind == api.FrameIP {
		w.U32(uint64(f.IP.Src))
		w.U32(uint64(f.IP.Dst))
		w.U8(uint64(uint8(f.IP.Proto)))
		w.U16(uint64(uint16(f.IP.SrcPort)))
		w.U16(uint64(uint16(f.IP.DstPort)))
	} else {
		w.U48(uint64(f.Src & api.MaxMAC))
		w.U48(uint64(f.Dst & api.MaxMAC))
		w.U8(uint64(uint8(f.Kind)))
	}
	return string(w.Out())
}
