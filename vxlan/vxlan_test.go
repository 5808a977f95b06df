package vxlan_test

import (
	"math"
	"testing"

	"leafmesh/api"
	"leafmesh/packet"
	"leafmesh/vxlan"
)

// ordinary is a valid packet.
var ordinary = api.Packet{Src: 0x0aff0001, Dst: 0x0aff0002, TTL: 16, Entropy: 50000, VNI: 100, Mark: 5, Inner: stream}

// wantCheck checks what Check says about a packet, and that Bytes says the same.
func wantCheck(t *testing.T, name string, p api.Packet, want api.Errno) {
	t.Helper()
	if err := vxlan.Check(p); err != want {
		t.Errorf("%s: Check(%+v) = %v, want %v", name, p, err, want)
	}
	b, err := vxlan.Bytes(p)
	if err != want || (b != nil) != (want == api.OK) {
		t.Errorf("%s: Bytes(%+v) = % x, %v, want %v", name, p, b, err, want)
	}
}

// P8.1: each number is from 0 to the greatest one that its field holds.
func TestCheckNumbers(t *testing.T) {
	for _, n := range []int{math.MinInt, -1 << 32, -65536, -256, -1, 0, 1, 255, 256, 257, 65535, 65536, 1 << 32, 1<<32 + 1, math.MaxInt} {
		p := ordinary
		p.TTL = n
		wantCheck(t, "TTL", p, rangeUnless(n >= 0 && n <= 255))
		p = ordinary
		p.Entropy = n
		wantCheck(t, "Entropy", p, rangeUnless(n >= 0 && n <= 65535))
	}
	for _, n := range []uint32{0, 1, 255, 65536, api.MaxVNI - 1, api.MaxVNI, api.MaxVNI + 1, api.MaxVNI + 2, 1 << 31, math.MaxUint32} {
		p := ordinary
		p.VNI = n
		wantCheck(t, "VNI", p, rangeUnless(n <= api.MaxVNI))
		p = ordinary
		p.Mark = n
		wantCheck(t, "Mark", p, rangeUnless(n <= api.MaxVNI))
	}
}

// rangeUnless returns the error of a number that is out of range.
func rangeUnless(is bool) api.Errno {
	if is {
		return api.OK
	}
	return api.ErrRange
}

// P8.1: all addresses are valid.
func TestCheckAddresses(t *testing.T) {
	for _, ip := range []api.IP{0, 1, 0x0aff0001, 0xe8000001, math.MaxUint32} {
		p := ordinary
		p.Src = ip
		wantCheck(t, "Src", p, api.OK)
		p.Dst = ip
		wantCheck(t, "Dst", p, api.OK)
	}
}

// wrongFrames is frames that layer 7 does not accept, with its error.
var wrongFrames = []struct {
	f   api.Frame
	err api.Errno
}{
	{api.Frame{Src: 1 << 48}, api.ErrRange},
	{api.Frame{Dst: 1 << 48}, api.ErrRange},
	{api.Frame{Src: 1 << 40}, api.ErrForm},
	{api.Frame{Kind: 3}, api.ErrType},
	{api.Frame{Kind: -1}, api.ErrType},
	{api.Frame{ARP: api.ARP{Op: 1}}, api.ErrForm},
	{api.Frame{IP: api.Head{TTL: 1}}, api.ErrForm},
	{api.Frame{Kind: 1}, api.ErrRange},
	{api.Frame{Kind: 2, IP: api.Head{TTL: 256}}, api.ErrRange},
	{api.Frame{Kind: 2, IP: api.Head{Proto: 1, DstPort: 1}}, api.ErrForm},
}

// P8.1: the inner frame is one that layer 7 accepts, or its error is that of the packet.
func TestCheckInner(t *testing.T) {
	for _, f := range frames {
		p := ordinary
		p.Inner = f
		wantCheck(t, "frame", p, api.OK)
	}
	for _, x := range wrongFrames {
		p := ordinary
		p.Inner = x.f
		if err := packet.Check(x.f); err != x.err {
			t.Errorf("the frame %+v has the error %v", x.f, err)
		}
		wantCheck(t, "wrong frame", p, x.err)
	}
}

// P8.1, R1: a number out of range counts before the inner frame.
func TestCheckOrder(t *testing.T) {
	for _, x := range wrongFrames {
		for _, p := range []api.Packet{{TTL: -1}, {TTL: 256}, {Entropy: -1}, {Entropy: 65536}, {VNI: api.MaxVNI + 1}, {Mark: api.MaxVNI + 1}} {
			p.Inner = x.f
			wantCheck(t, "order", p, api.ErrRange)
		}
	}
}
