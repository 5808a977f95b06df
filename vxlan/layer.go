package vxlan

import (
	"leafmesh/api"
	"leafmesh/packet"
	"leafmesh/wire"
)

// The numbers of bytes of the headers.
const (
	ipBytes    = 20
	udpBytes   = 8
	vxlanBytes = 8
)

// The offsets in an encoded packet: of the protocol and the checksum of its IPv4 header, of the UDP header and its destination port, and of the inner frame.
const (
	protoAt = 9
	sumAt   = 10
	udpAt   = ipBytes
	portAt  = udpAt + 2
	frameAt = ipBytes + udpBytes + vxlanBytes
)

// The constant fields: how an IPv4 header begins, the protocol and the port that say what follows, and the byte that says that there is a VNI.
const (
	ipStart   = 0x4500
	protoUDP  = 17
	portVXLAN = 4789
	flagVNI   = 8
)

// The layers of a packet that Check accepts, from the innermost one. Each embeds the one that it carries, and its method appends its header with all that follows.
type (
	frameLayer struct {
		frame []byte
	}
	vxlanLayer struct {
		frameLayer
		mark, vni uint32
	}
	udpLayer struct {
		vxlanLayer
		entropy int
	}
	ipLayer struct {
		udpLayer
		src, dst api.IP
		ttl      int
	}
)

// layersOf returns the layers of a packet with an encoded inner frame.
func layersOf(p api.Packet, frame []byte) ipLayer {
	inner := vxlanLayer{frameLayer: frameLayer{frame}, mark: p.Mark, vni: p.VNI}
	outer := udpLayer{vxlanLayer: inner, entropy: p.Entropy}
	return ipLayer{udpLayer: outer, src: p.Src, dst: p.Dst, ttl: p.TTL}
}

func (l ipLayer) appendIP(b []byte) []byte {
	head := l.withoutSum()
	sum := packet.Sum(head)
	head[sumAt], head[sumAt+1] = byte(sum>>8), byte(sum)
	return l.appendUDP(append(b, head...))
}

// withoutSum returns the IPv4 header with a zero checksum, which adds nothing to its sum.
func (l ipLayer) withoutSum() []byte {
	w, _ := wire.NewWriter(ipBytes)
	w.U16(ipStart)
	w.U16(l.bytesFrom(0))
	w.U32(0)
	w.U8(uint64(l.ttl))
	w.U8(protoUDP)
	w.U16(0)
	w.U32(uint64(l.src))
	w.U32(uint64(l.dst))
	return w.Out()
}

func (l udpLayer) appendUDP(b []byte) []byte {
	w, _ := wire.NewWriter(udpBytes)
	w.U16(uint64(l.entropy))
	w.U16(portVXLAN)
	w.U16(l.bytesFrom(udpAt))
	w.U16(0)
	return l.appendVXLAN(append(b, w.Out()...))
}

func (l vxlanLayer) appendVXLAN(b []byte) []byte {
	w, _ := wire.NewWriter(vxlanBytes)
	w.U8(flagVNI)
	w.U24(uint64(l.mark))
	w.U24(uint64(l.vni))
	w.U8(0)
	return l.appendFrame(append(b, w.Out()...))
}

func (l frameLayer) appendFrame(b []byte) []byte {
	return append(b, l.frame...)
}

// bytesFrom returns the number of bytes from an offset to the end of the packet, where the inner frame ends.
func (l frameLayer) bytesFrom(at int) uint64 {
	return uint64(frameAt + len(l.frame) - at)
}
