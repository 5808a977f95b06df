package packet

import (
	"leafmesh/api"
	"leafmesh/wire"
)

// The types of encoded frames.
const (
	typeData = 0x88b5
	typeARP  = 0x0806
	typeIP   = 0x0800
)

// The constant fields: what precedes Op, which says that hardware addresses are resolved for IPv4 addresses, and how an IPv4 header begins.
const (
	arpStart = 0x000108000604
	ipStart  = 0x4500
)

// The numbers of bytes of an IPv4 header, of the header with ports, and of Data.
const (
	ipBytes   = 20
	portBytes = 8
	dataBytes = 8
)

// The protocols with ports.
const (
	protoTCP = 6
	protoUDP = 17
)

// The greatest numbers of one byte and of two.
const (
	maxByte = 1<<8 - 1
	maxPort = 1<<16 - 1
)

// header is what an encoded frame has between its addresses and its Data: one type per kind of frame.
type header interface {
	// check returns why the fields that the kind uses are not valid.
	check() api.Errno
	// write writes a header that check accepts.
	write(w *wire.Writer)
}

// The headers of the kinds.
type (
	dataHeader struct{}
	arpHeader  struct{ api.ARP }
	ipHeader   struct{ api.Head }
)

// headerOf returns the header of a frame, if it is of a known kind.
func headerOf(f api.Frame) (header, bool) {
	switch f.Kind {
	case api.FrameData:
		return dataHeader{}, true
	case api.FrameARP:
		return arpHeader{f.ARP}, true
	case api.FrameIP:
		return ipHeader{f.IP}, true
	}
	return nil, false
}

// Ported reports whether a protocol has ports.
func Ported(proto int) bool {
	return proto == protoTCP || proto == protoUDP
}

func (dataHeader) check() api.Errno { return api.OK }

func (dataHeader) write(w *wire.Writer) {
	w.U16(typeData)
}

func (h arpHeader) check() api.Errno {
	known := h.Op == 1 || h.Op == 2
	if !known || h.SenderMAC > api.MaxMAC || h.TargetMAC > api.MaxMAC {
		return api.ErrRange
	}
	return api.OK
}

func (h arpHeader) write(w *wire.Writer) {
	w.U16(typeARP)
	w.U48(arpStart)
	w.U16(uint64(h.Op))
	w.U48(uint64(h.SenderMAC))
	w.U32(uint64(h.SenderIP))
	w.U48(uint64(h.TargetMAC))
	w.U32(uint64(h.TargetIP))
}

func (h ipHeader) check() api.Errno {
	switch {
	case !upTo(maxByte, h.TTL) || !upTo(maxByte, h.Proto) || !upTo(maxPort, h.SrcPort) || !upTo(maxPort, h.DstPort):
		return api.ErrRange
	case !Ported(h.Proto) && (h.SrcPort != 0 || h.DstPort != 0):
		return api.ErrForm
	}
	return api.OK
}

func (h ipHeader) write(w *wire.Writer) {
	w.U16(typeIP)
	w.Bytes(h.withSum(Sum(h.withSum(0))))
	if Ported(h.Proto) {
		w.U16(uint64(h.SrcPort))
		w.U16(uint64(h.DstPort))
		w.U16(portBytes + dataBytes)
		w.U16(0)
	}
}

// withSum returns the IPv4 header with a checksum. With a zero one, which adds nothing, its sum is that of the other numbers.
func (h ipHeader) withSum(sum uint16) []byte {
	w, _ := wire.NewWriter(ipBytes)
	w.U16(ipStart)
	w.U16(h.size())
	w.U32(0)
	w.U8(uint64(h.TTL))
	w.U8(uint64(h.Proto))
	w.U16(uint64(sum))
	w.U32(uint64(h.Src))
	w.U32(uint64(h.Dst))
	return w.Out()
}

// size returns the number of bytes from the beginning of the IPv4 header to the end of the frame.
func (h ipHeader) size() uint64 {
	if Ported(h.Proto) {
		return ipBytes + portBytes + dataBytes
	}
	return ipBytes + dataBytes
}

// upTo reports whether n is from 0 to most.
func upTo(most, n int) bool {
	return n >= 0 && n <= most
}
