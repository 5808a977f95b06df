package packet

import "iter"

// Sum returns a checksum.
func Sum(b []byte) uint16 {
	sum := uint32(0)
	for n := range words(b) {
		sum += uint32(n)
		// The carry is added again at once, so that no number of bytes is too great for the sum.
		sum = sum&0xffff + sum>>16
	}
	return ^uint16(sum)
}

// words visits the 16-bit numbers of b; a zero byte follows a last odd one.
func words(b []byte) iter.Seq[uint16] {
	return func(yield func(uint16) bool) {
		for i := 0; i < len(b); i += 2 {
			n := uint16(b[i]) << 8
			if i+1 < len(b) {
				n |= uint16(b[i+1])
			}
			if !yield(n) {
				return
			}
		}
	}
}
