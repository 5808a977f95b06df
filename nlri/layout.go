package nlri

import (
	"leafmesh/api"
	"leafmesh/wire"
)

// The bytes before addresses: how many bits they have.
const (
	macBits = 48
	ipBits  = 32
	noBits  = 0
)

// layout is how the routes of a kind are encoded.
type layout interface {
	// normal returns a route without the fields that the kind does not use, and with the bool HasIP that it demands. A route that differs from its normal one is not of the right form.
	normal(n api.NLRI) api.NLRI
	// write writes the value of a route that Check accepts.
	write(w *wire.Writer, n api.NLRI)
	// read reads a value without checking it.
	read(r *wire.Reader) api.NLRI
}

// The layouts of the kinds.
type (
	autoLayout    struct{}
	macLayout     struct{}
	floodLayout   struct{}
	segmentLayout struct{}
	prefixLayout  struct{}
)

// layoutOf returns the layout of a kind.
func layoutOf(kind int) (layout, bool) {
	layouts := map[int]layout{
		api.KindAuto:    autoLayout{},
		api.KindMAC:     macLayout{},
		api.KindFlood:   floodLayout{},
		api.KindSegment: segmentLayout{},
		api.KindPrefix:  prefixLayout{},
	}
	l, known := layouts[kind]
	return l, known
}

func (autoLayout) normal(n api.NLRI) api.NLRI {
	return api.NLRI{Kind: n.Kind, RD: n.RD, ESI: n.ESI, Tag: n.Tag, Label: n.Label}
}

func (autoLayout) write(w *wire.Writer, n api.NLRI) {
	writeStart(w, n)
	w.U24(uint64(n.Label))
}

func (autoLayout) read(r *wire.Reader) api.NLRI {
	n := readStart(r, api.KindAuto)
	n.Label = uint32(r.U24())
	return n
}

func (macLayout) normal(n api.NLRI) api.NLRI {
	n.Prefix, n.Gateway = api.Prefix{}, 0
	if !n.HasIP {
		n.IP = 0
	}
	return n
}

func (macLayout) write(w *wire.Writer, n api.NLRI) {
	writeStart(w, n)
	w.U8(macBits)
	w.U48(uint64(n.MAC))
	if n.HasIP {
		writeIP(w, n.IP)
	} else {
		w.U8(noBits)
	}
	w.U24(uint64(n.Label))
	if n.Label2 != 0 {
		w.U24(uint64(n.Label2))
	}
}

func (macLayout) read(r *wire.Reader) api.NLRI {
	n := readStart(r, api.KindMAC)
	r.U8()
	n.MAC = api.MAC(r.U48())
	if r.U8() != noBits {
		n.HasIP, n.IP = true, api.IP(r.U32())
	}
	n.Label = uint32(r.U24())
	n.Label2 = uint32(r.U24()) // zero if the value ends before it
	return n
}

func (floodLayout) normal(n api.NLRI) api.NLRI {
	return api.NLRI{Kind: n.Kind, RD: n.RD, Tag: n.Tag, IP: n.IP, HasIP: true}
}

func (floodLayout) write(w *wire.Writer, n api.NLRI) {
	w.U64(n.RD)
	w.U32(uint64(n.Tag))
	writeIP(w, n.IP)
}

func (floodLayout) read(r *wire.Reader) api.NLRI {
	n := api.NLRI{Kind: api.KindFlood, HasIP: true}
	n.RD = r.U64()
	n.Tag = uint32(r.U32())
	r.U8()
	n.IP = api.IP(r.U32())
	return n
}

func (segmentLayout) normal(n api.NLRI) api.NLRI {
	return api.NLRI{Kind: n.Kind, RD: n.RD, ESI: n.ESI, IP: n.IP, HasIP: true}
}

func (segmentLayout) write(w *wire.Writer, n api.NLRI) {
	w.U64(n.RD)
	w.Bytes(n.ESI[:])
	writeIP(w, n.IP)
}

func (segmentLayout) read(r *wire.Reader) api.NLRI {
	n := api.NLRI{Kind: api.KindSegment, HasIP: true}
	n.RD = r.U64()
	n.ESI = readESI(r)
	r.U8()
	n.IP = api.IP(r.U32())
	return n
}

func (prefixLayout) normal(n api.NLRI) api.NLRI {
	n.MAC, n.IP, n.HasIP, n.Label2 = 0, 0, false, 0
	return n
}

func (prefixLayout) write(w *wire.Writer, n api.NLRI) {
	writeStart(w, n)
	w.U8(uint64(n.Prefix.Len))
	w.U32(uint64(n.Prefix.IP))
	w.U32(uint64(n.Gateway))
	w.U24(uint64(n.Label))
}

func (prefixLayout) read(r *wire.Reader) api.NLRI {
	n := readStart(r, api.KindPrefix)
	n.Prefix.Len = int(r.U8())
	n.Prefix.IP = api.IP(r.U32())
	n.Gateway = api.IP(r.U32())
	n.Label = uint32(r.U24())
	return n
}

// writeStart writes the fields with which the values of three kinds start.
func writeStart(w *wire.Writer, n api.NLRI) {
	w.U64(n.RD)
	w.Bytes(n.ESI[:])
	w.U32(uint64(n.Tag))
}

// readStart returns a route of a kind with the fields that writeStart writes.
func readStart(r *wire.Reader, kind int) api.NLRI {
	n := api.NLRI{Kind: kind}
	n.RD = r.U64()
	n.ESI = readESI(r)
	n.Tag = uint32(r.U32())
	return n
}

// writeIP writes an address behind the number of its bits.
func writeIP(w *wire.Writer, ip api.IP) {
	w.U8(ipBits)
	w.U32(uint64(ip))
}

func readESI(r *wire.Reader) api.ESI {
	var e api.ESI
	copy(e[:], r.Bytes(len(e)))
	return e
}
