package addr

import (
	"cmp"

	"leafmesh/api"
)

// addressBits is the number of bits of an address, and so the greatest length of a prefix.
const addressBits = 32

// Contains reports whether a prefix contains an address.
func Contains(p api.Prefix, ip api.IP) bool {
	return validPrefix(p) && (p.IP^ip)&mask(p.Len) == 0
}

// Covers reports whether a prefix contains another one.
func Covers(p, q api.Prefix) bool {
	return validPrefix(q) && p.Len <= q.Len && Contains(p, q.IP)
}

// Clean returns a prefix without host bits.
func Clean(p api.Prefix) (api.Prefix, api.Errno) {
	if !validPrefix(p) {
		return api.Prefix{}, api.ErrRange
	}
	return api.Prefix{IP: p.IP & mask(p.Len), Len: p.Len}, api.OK
}

// ComparePrefix compares two prefixes.
func ComparePrefix(p, q api.Prefix) int {
	return cmp.Or(cmp.Compare(p.IP, q.IP), cmp.Compare(p.Len, q.Len))
}

func validPrefix(p api.Prefix) bool {
	return p.Len >= 0 && p.Len <= addressBits
}

// mask returns an address whose first bits, length of them, are set; length is that of a valid prefix.
func mask(length int) api.IP {
	return ^api.IP(0) << (addressBits - length)
}
