// Package addr is layer 1: see shared/doc/01-addr.md.
package addr

import "leafmesh/api"

// The addresses of node 0; those of the other nodes follow in order.
const (
	firstLoopback api.IP  = 10<<24 | 255<<16 | 1
	firstRouter   api.MAC = 0x020000000000
)

// groupBit is the lowest bit of the byte of a hardware address that is sent first.
const groupBit api.MAC = 1 << 40

// Loopback returns the loopback address of a node.
func Loopback(n int) (api.IP, api.Errno) {
	return numbered(firstLoopback, n)
}

// Node returns the node of a loopback address.
func Node(ip api.IP) (int, bool) {
	return nodeOf(firstLoopback, ip)
}

// RouterMAC returns the router hardware address of a node.
func RouterMAC(n int) (api.MAC, api.Errno) {
	return numbered(firstRouter, n)
}

// RouterNode returns the node of a router hardware address.
func RouterNode(m api.MAC) (int, bool) {
	return nodeOf(firstRouter, m)
}

// Multicast reports whether a hardware address is a group address.
func Multicast(m api.MAC) bool {
	return validMAC(m) && m&groupBit != 0
}

func validMAC(m api.MAC) bool {
	return m <= api.MaxMAC
}

// numbered returns the address of node n, if that of node 0 is first.
func numbered[N number](first N, n int) (N, api.Errno) {
	if n < 0 || n >= api.MaxNodes {
		return 0, api.ErrRange
	}
	return first + N(n), api.OK
}

// nodeOf returns the node whose address a is, if that of node 0 is first.
func nodeOf[N number](first, a N) (int, bool) {
	// An address below the first one wraps around, to an offset that no node has.
	offset := a - first
	if offset >= api.MaxNodes {
		return 0, false
	}
	return int(offset), true
}
