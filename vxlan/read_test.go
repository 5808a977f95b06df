package vxlan_test

import (
	"bytes"
	"slices"
	"testing"

	"leafmesh/api"
	"leafmesh/packet"
	"leafmesh/vxlan"
)

// The offset of the inner frame.
const frameAt = 36

// P8.2: bytes that end before the inner frame are short, whatever they are.
func TestReadShort(t *testing.T) {
	wantFault(t, nil, api.ErrShort, 0)
	wantFault(t, []byte{}, api.ErrShort, 0)
	for n := range frameAt {
		wantFault(t, make([]byte, n), api.ErrShort, n)
		wantFault(t, bytes.Repeat([]byte{0xff}, n), api.ErrShort, n)
		for _, c := range codes {
			wantFault(t, unhex(t, c.text)[:n], api.ErrShort, n)
		}
	}
}

// P8.2: the protocol is 17, and that comes before the port and the inner frame.
func TestReadProtocols(t *testing.T) {
	for _, c := range codes {
		for proto := range 256 {
			if proto == 17 {
				continue
			}
			b := unhex(t, c.text)
			b[9] = byte(proto)
			wantFault(t, b, api.ErrType, 9)
			wantFault(t, b[:frameAt], api.ErrType, 9)
			wantFault(t, append(slices.Clone(b), 0), api.ErrType, 9)
			b[22], b[frameAt+12] = 0, 7
			wantFault(t, b, api.ErrType, 9)
		}
	}
}

// P8.2: the destination port is 4789, and that comes before the inner frame.
func TestReadPorts(t *testing.T) {
	b := unhex(t, codes[0].text)
	for port := range 1 << 16 {
		if port == 4789 {
			continue
		}
		b[22], b[23] = byte(port>>8), byte(port)
		wantFault(t, b, api.ErrType, 22)
	}
	wantFault(t, b[:frameAt], api.ErrType, 22)
	wantFault(t, append(slices.Clone(b), 0), api.ErrType, 22)
	b[frameAt+12] = 7
	wantFault(t, b, api.ErrType, 22)
}

// P8.2: the faults of the inner frame have their positions in the packet, and come before the form of the headers.
func TestReadInner(t *testing.T) {
	for _, c := range codes {
		whole := unhex(t, c.text)
		wrong := slices.Clone(whole)
		wrong[0] = 7
		for _, b := range [][]byte{whole, wrong} {
			for n := frameAt; n < len(b); n++ {
				wantFault(t, b[:n], api.ErrShort, n)
			}
			for _, n := range []int{1, 2, 8, 50, 70000} {
				wantFault(t, append(slices.Clone(b), make([]byte, n)...), api.ErrLong, len(b))
			}
			other := slices.Clone(b)
			other[frameAt+6] |= 1
			wantFault(t, other, api.ErrForm, frameAt)
			other[frameAt+12] = 7
			wantFault(t, other, api.ErrType, frameAt+12)
		}
	}
}

// P8.2: whatever stands behind the headers, its fault is that of layer 7.
func TestReadOtherInner(t *testing.T) {
	for _, c := range codes {
		for at := frameAt; at < len(unhex(t, c.text)); at++ {
			for _, value := range []byte{0, 1, 6, 17, 28, 255} {
				b := unhex(t, c.text)
				b[at] = value
				f, fault := packet.Read(b[frameAt:])
				if fault.Err != api.OK {
					wantFault(t, b, fault.Err, fault.At+frameAt)
					continue
				}
				want := c.p
				want.Inner = f
				wantRead(t, b, want)
			}
		}
	}
}

// P8.2: a packet with a good inner frame has the form that Bytes gives it, down to each byte.
func TestReadConstants(t *testing.T) {
	for _, c := range codes {
		code := unhex(t, c.text)
		for _, at := range []int{0, 1, 2, 3, 4, 5, 6, 7, 10, 11, 24, 25, 26, 27, 28, 35} {
			for value := range 256 {
				b := slices.Clone(code)
				b[at] = byte(value)
				if b[at] != code[at] {
					wantFault(t, b, api.ErrForm, 0)
				}
				if sum(b); !bytes.Equal(b, code) {
					wantFault(t, b, api.ErrForm, 0)
				}
			}
		}
	}
}

// sum gives an IPv4 header the checksum that it must have.
func sum(b []byte) {
	b[10], b[11] = 0, 0
	n := packet.Sum(b[:20])
	b[10], b[11] = byte(n>>8), byte(n)
}

// P8.2: the numbers of bytes are those that the packet has, not others that agree with each other.
func TestReadSizes(t *testing.T) {
	for _, c := range codes {
		b := unhex(t, c.text)
		for _, more := range []int{-36, -20, -8, -1, 1, 8, 20, 36} {
			other := slices.Clone(b)
			other[3] += byte(more)
			other[25] += byte(more)
			sum(other)
			wantFault(t, other, api.ErrForm, 0)
		}
	}
}

// P8.2: all values of the other bytes of the headers are those of some packet.
func TestReadFields(t *testing.T) {
	for _, c := range codes {
		for value := range 256 {
			for at, set := range map[int]func(p *api.Packet){
				8:  func(p *api.Packet) { p.TTL = value },
				12: func(p *api.Packet) { p.Src = p.Src&0x00ffffff | api.IP(value)<<24 },
				15: func(p *api.Packet) { p.Src = p.Src&0xffffff00 | api.IP(value) },
				16: func(p *api.Packet) { p.Dst = p.Dst&0x00ffffff | api.IP(value)<<24 },
				19: func(p *api.Packet) { p.Dst = p.Dst&0xffffff00 | api.IP(value) },
				20: func(p *api.Packet) { p.Entropy = p.Entropy&0x00ff | value<<8 },
				21: func(p *api.Packet) { p.Entropy = p.Entropy&0xff00 | value },
				29: func(p *api.Packet) { p.Mark = p.Mark&0x00ffff | uint32(value)<<16 },
				31: func(p *api.Packet) { p.Mark = p.Mark&0xffff00 | uint32(value) },
				32: func(p *api.Packet) { p.VNI = p.VNI&0x00ffff | uint32(value)<<16 },
				34: func(p *api.Packet) { p.VNI = p.VNI&0xffff00 | uint32(value) },
			} {
				b, want := unhex(t, c.text), c.p
				b[at] = byte(value)
				set(&want)
				sum(b)
				wantRead(t, b, want)
			}
		}
	}
}

// P8.2: a checksum of 0xffff, which the sum allows in place of 0, is not what Bytes writes.
func TestReadOtherZero(t *testing.T) {
	seen := false
	for _, c := range codes {
		b := unhex(t, c.text)
		if b[10] != 0 || b[11] != 0 {
			continue
		}
		seen = true
		b[10], b[11] = 0xff, 0xff
		if packet.Sum(b[:20]) != 0 {
			t.Error("the sum is another one")
		}
		wantFault(t, b, api.ErrForm, 0)
	}
	if !seen {
		t.Error("no code has a checksum of 0")
	}
}

// R4: bytes that are read or hashed are not changed, and results share no memory with those of another call.
func TestSharesNothing(t *testing.T) {
	for _, c := range codes {
		want := unhex(t, c.text)
		memory := append(unhex(t, c.text), 7, 7, 7, 7)
		vxlan.Read(memory[:len(want)])
		vxlan.Read(memory[:len(want)-1])
		vxlan.Hash(memory[:len(want)])
		if !bytes.Equal(memory, append(slices.Clone(want), 7, 7, 7, 7)) {
			t.Errorf("the arguments are changed to % x", memory)
		}
		out, _ := vxlan.Bytes(c.p)
		again, _ := vxlan.Bytes(c.p)
		clear(out[:cap(out)])
		if !bytes.Equal(again, want) {
			t.Errorf("Bytes shares memory: % x", again)
		}
	}
}
