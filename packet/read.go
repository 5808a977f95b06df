package packet

import (
	"bytes"

	"leafmesh/api"
	"leafmesh/wire"
)

// The offsets in encoded frames: of the type, of what follows it, and of Proto.
const (
	typeAt  = 12
	partAt  = 14
	protoAt = partAt + 9
)

// The numbers of bytes of encoded frames: of those that have one size, of those of FrameIP without ports and with ports, and the greatest one.
const (
	dataSize = partAt + dataBytes
	arpSize  = partAt + 28 + dataBytes
	ipSize   = partAt + ipBytes + dataBytes
	portSize = ipSize + portBytes
	maxSize  = max(dataSize, arpSize, portSize)
)

// Read decodes a frame.
func Read(b []byte) (api.Frame, api.Fault) {
	if len(b) < partAt {
		return api.Frame{}, api.Fault{Err: api.ErrShort, At: len(b)}
	}
	kind, known := kindOf(b)
	if !known {
		return api.Frame{}, api.Fault{Err: api.ErrType, At: typeAt}
	}
	switch size := sizeOf(kind, b); {
	case len(b) < size:
		return api.Frame{}, api.Fault{Err: api.ErrShort, At: len(b)}
	case len(b) > size:
		return api.Frame{}, api.Fault{Err: api.ErrLong, At: size}
	}
	f := decode(kind, b)
	// Comparing with what would be written finds all that decoding passes over: other constant bytes, another checksum, fields out of range.
	if back, err := Bytes(f); err != api.OK || !bytes.Equal(back, b) {
		return api.Frame{}, api.Fault{Err: api.ErrForm}
	}
	return f, api.Fault{}
}

// kindOf returns the kind of an encoded frame, which has a type, if that is a known one.
func kindOf(b []byte) (int, bool) {
	switch int(b[typeAt])<<8 | int(b[typeAt+1]) {
	case typeData:
		return api.FrameData, true
	case typeARP:
		return api.FrameARP, true
	case typeIP:
		return api.FrameIP, true
	}
	return 0, false
}

// sizeOf returns the number of bytes that an encoded frame of a kind has. If it ends before its Proto, it has fewer, whether it has ports or not.
func sizeOf(kind int, b []byte) int {
	switch {
	case kind == api.FrameData:
		return dataSize
	case kind == api.FrameARP:
		return arpSize
	case len(b) > protoAt && Ported(int(b[protoAt])):
		return portSize
	}
	return ipSize
}

// decode decodes a frame that has the size of its kind, without checking it.
func decode(kind int, b []byte) api.Frame {
	switch kind {
	case api.FrameData:
		return readData([dataSize]byte(b))
	case api.FrameARP:
		return readARP([arpSize]byte(b))
	}
	return readIP(b)
}

func readData(b [dataSize]byte) api.Frame {
	r := wire.NewReader(b[:])
	f := readStart(r, api.FrameData)
	f.Data = r.U64()
	return f
}

func readARP(b [arpSize]byte) api.Frame {
	r := wire.NewReader(b[:])
	f := readStart(r, api.FrameARP)
	r.U48()
	f.ARP.Op = int(r.U16())
	f.ARP.SenderMAC = api.MAC(r.U48())
	f.ARP.SenderIP = api.IP(r.U32())
	f.ARP.TargetMAC = api.MAC(r.U48())
	f.ARP.TargetIP = api.IP(r.U32())
	f.Data = r.U64()
	return f
}

func readIP(b []byte) api.Frame {
	r := wire.NewReader(b)
	f := readStart(r, api.FrameIP)
	r.U64()
	f.IP.TTL = int(r.U8())
	f.IP.Proto = int(r.U8())
	r.U16()
	f.IP.Src = api.IP(r.U32())
	f.IP.Dst = api.IP(r.U32())
	if Ported(f.IP.Proto) {
		f.IP.SrcPort = int(r.U16())
		f.IP.DstPort = int(r.U16())
		r.U32()
	}
	f.Data = r.U64()
	return f
}

// readStart returns a frame of a kind with the addresses before the type, and passes over the type.
func readStart(r *wire.Reader, kind int) api.Frame {
	f := api.Frame{Kind: kind}
	f.Dst = api.MAC(r.U48())
	f.Src = api.MAC(r.U48())
	r.U16()
	return f
}
