package vxlan

import (
	"bytes"

	"leafmesh/api"
	"leafmesh/packet"
	"leafmesh/wire"
)

// Read decodes a packet.
func Read(b []byte) (api.Packet, api.Fault) {
	if fault := headFault(b); fault.Err != api.OK {
		return api.Packet{}, fault
	}
	frame, fault := readFrame(b)
	if fault.Err != api.OK {
		return api.Packet{}, fault
	}
	p := readHeaders(b[:frameAt])
	p.Inner = frame
	// Comparing with what would be written finds all that decoding passes over: other constant bytes, other sizes, another checksum.
	if back, err := Bytes(p); err != api.OK || !bytes.Equal(back, b) {
		return api.Packet{}, api.Fault{Err: api.ErrForm}
	}
	return p, api.Fault{}
}

// headFault returns why bytes do not begin with the headers of a packet.
func headFault(b []byte) api.Fault {
	switch {
	case len(b) < frameAt:
		return api.Fault{Err: api.ErrShort, At: len(b)}
	case b[protoAt] != protoUDP:
		return api.Fault{Err: api.ErrType, At: protoAt}
	case int(b[portAt])<<8|int(b[portAt+1]) != portVXLAN:
		return api.Fault{Err: api.ErrType, At: portAt}
	}
	return api.Fault{}
}

// readFrame decodes the inner frame of a packet, whose faults get their positions in the packet.
func readFrame(b []byte) (frame api.Frame, fault api.Fault) {
	defer func() {
		if fault.Err != api.OK {
			fault.At += frameAt
		}
	}()
	return packet.Read(b[frameAt:])
}

// readHeaders decodes the fields of the headers without checking them.
func readHeaders(b []byte) api.Packet {
	var p api.Packet
	r := wire.NewReader(b)
	r.U64()
	p.TTL = int(r.U8())
	r.U24() // the protocol and the checksum
	p.Src = api.IP(r.U32())
	p.Dst = api.IP(r.U32())
	p.Entropy = int(r.U16())
	r.U48()
	r.U8()
	p.Mark = uint32(r.U24())
	p.VNI = uint32(r.U24())
	return p
}
