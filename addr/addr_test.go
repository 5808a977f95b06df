package addr_test

import (
	"math"
	"testing"

	"leafmesh/addr"
	"leafmesh/api"
)

// notNodes are numbers that no node has.
var notNodes = []int{-1, -2, api.MaxNodes, api.MaxNodes + 1, 255, 256, 1 << 16, 1 << 32, math.MinInt, math.MaxInt}

// nodeAt returns the node whose address is x, if the addresses of the nodes begin at first.
func nodeAt(first, x uint64) (int, bool) {
	for n := range api.MaxNodes {
		if first+uint64(n) == x {
			return n, true
		}
	}
	return 0, false
}

// P1.1: the loopback addresses of nodes, and of no other numbers.
func TestLoopback(t *testing.T) {
	for n := range 32 {
		want := api.IP(0x0aff0000 + n + 1)
		if ip, err := addr.Loopback(n); ip != want || err != api.OK {
			t.Errorf("Loopback(%d) = %#x, %v", n, ip, err)
		}
	}
	for _, n := range notNodes {
		if ip, err := addr.Loopback(n); ip != 0 || err != api.ErrRange {
			t.Errorf("Loopback(%d) = %#x, %v", n, ip, err)
		}
	}
}

// P1.1: Node inverts Loopback; other addresses have no node.
func TestNode(t *testing.T) {
	ips := []api.IP{0, 1, 31, 32, 0x0aff, 0x0affff01, 0x0aff0101, 0x0a000001, 0x000aff01, 0x7fffffff, 0x80000000, math.MaxUint32}
	for i := range api.IP(600) {
		ips = append(ips, 0x0aff0000-300+i)
	}
	for bit := range 32 {
		ips = append(ips, 0x0aff0001^1<<bit)
	}
	for _, ip := range ips {
		want, is := nodeAt(0x0aff0001, uint64(ip))
		if n, ok := addr.Node(ip); n != want || ok != is {
			t.Errorf("Node(%#x) = %d, %v", ip, n, ok)
		}
	}
}

// P1.1: the router addresses of nodes, and of no other numbers.
func TestRouterMAC(t *testing.T) {
	for n := range 32 {
		want := api.MAC(0x020000000000 + n)
		if m, err := addr.RouterMAC(n); m != want || err != api.OK {
			t.Errorf("RouterMAC(%d) = %#x, %v", n, m, err)
		}
	}
	for _, n := range notNodes {
		if m, err := addr.RouterMAC(n); m != 0 || err != api.ErrRange {
			t.Errorf("RouterMAC(%d) = %#x, %v", n, m, err)
		}
	}
}

// P1.1: RouterNode inverts RouterMAC; other addresses, also those that are not valid, have no node.
func TestRouterNode(t *testing.T) {
	macs := []api.MAC{0, 1, 31, api.GatewayMAC, api.Broadcast, api.MaxMAC + 1, math.MaxUint64}
	for i := range api.MAC(600) {
		macs = append(macs, 0x020000000000-300+i)
	}
	for bit := range 64 {
		macs = append(macs, 0x020000000000^1<<bit, 0x020000000001^1<<bit)
	}
	for _, m := range macs {
		want, is := nodeAt(0x020000000000, uint64(m))
		if n, ok := addr.RouterNode(m); n != want || ok != is {
			t.Errorf("RouterNode(%#x) = %d, %v", m, n, ok)
		}
	}
}

// P1.1: a group address is a valid one with the bit 40.
func TestMulticast(t *testing.T) {
	tests := []struct {
		m    api.MAC
		want bool
	}{
		{0, false},
		{0x010000000000, true},
		{0x01005e000001, true},
		{0x0b0000000000, true},
		{0xff0000000000, true},
		{api.Broadcast, true},
		{api.Broadcast - 1, true},
		{0xfeffffffffff, false},
		{0x020000000000, false},
		{0x00ffffffffff, false},
		{0x000000000001, false},
		{api.GatewayMAC, false},
		{api.MaxMAC, true},
		{api.MaxMAC + 1, false},
		{1<<48 | 1<<40, false},
		{1<<63 | 1<<40, false},
		{math.MaxUint64, false},
	}
	for bit := range 64 {
		tests = append(tests, struct {
			m    api.MAC
			want bool
		}{1 << bit, bit == 40})
	}
	for _, x := range tests {
		if got := addr.Multicast(x.m); got != x.want {
			t.Errorf("Multicast(%#x) = %v", x.m, got)
		}
	}
	for n := range api.MaxNodes {
		if m, _ := addr.RouterMAC(n); addr.Multicast(m) {
			t.Errorf("the router address of node %d is a group address", n)
		}
	}
}
