package attr

import (
	"cmp"

	"leafmesh/api"
	"leafmesh/nlri"
	"leafmesh/wire"
)

// The most bytes that all attributes have together, and the most of a value whose length takes one byte.
const (
	maxBytes = 65535
	maxShort = 255
)

// The codes of the attributes.
const (
	codeOrigin     = 1
	codePath       = 2
	codeMed        = 4
	codePref       = 5
	codeOriginator = 9
	codeClusters   = 10
	codeReach      = 14
	codeUnreach    = 15
	codeComms      = 16
	codeTunnel     = 22
)

// The bits of the flags.
const (
	flagOptional   = 0x80
	flagTransitive = 0x40
	flagPartial    = 0x20 // a speaker that does not know the attribute has passed it on
	flagLong       = 0x10 // the length takes two bytes
)

// Constant parts of values: the kind of a path, the address family of EVPN routes, and the number of bytes of a next hop.
const (
	sequence  = 2
	family    = 0x001946
	nextBytes = 4
)

// draft is what is written: the attributes of routes, and the bytes of the routes.
type draft struct {
	api.Attrs
	reach, unreach []byte
}

// row says how an attribute is written: its code, its flags, and the method that returns its value and whether there is one.
type row struct {
	code, flags uint64
	value       func(d draft) ([]byte, bool)
}

// Bytes encodes attributes and routes.
func Bytes(a api.Attrs, reach, unreach []api.NLRI) ([]byte, api.Errno) {
	if err := Check(a); err != api.OK {
		return nil, err
	}
	if len(reach) == 0 && !Zero(a) {
		return nil, api.ErrForm
	}
	announced, err := routes(reach)
	if err != api.OK {
		return nil, err
	}
	withdrawn, err := routes(unreach)
	if err != api.OK {
		return nil, err
	}
	return draft{a, announced, withdrawn}.bytes()
}

// routes returns the bytes of routes, or why one of them is not valid.
func routes(list []api.NLRI) ([]byte, api.Errno) {
	var b []byte
	for _, n := range list {
		part, err := nlri.Bytes(n)
		if err != api.OK {
			return nil, err
		}
		b = append(b, part...)
	}
	return b, api.OK
}

// rows returns all attributes in the order in which they are written.
func rows() [10]row {
	return [...]row{
		{codeOrigin, flagTransitive, draft.originValue},
		{codePath, flagTransitive, draft.pathValue},
		{codeMed, flagOptional, draft.medValue},
		{codePref, flagTransitive, draft.prefValue},
		{codeOriginator, flagOptional, draft.originatorValue},
		{codeClusters, flagOptional, draft.clustersValue},
		{codeReach, flagOptional, draft.reachValue},
		{codeUnreach, flagOptional, draft.unreachValue},
		{codeComms, flagOptional | flagTransitive, draft.commsValue},
		{codeTunnel, flagOptional | flagTransitive, draft.tunnelValue},
	}
}

// bytes returns the attributes that have values.
func (d draft) bytes() ([]byte, api.Errno) {
	w := newWriter()
	for _, x := range rows() {
		value, written := x.value(d)
		if written && x.write(w, value) != api.OK {
			return nil, api.ErrLong
		}
	}
	return w.Out(), api.OK
}

// write writes an attribute; an error means that it does not fit.
func (x row) write(w *wire.Writer, value []byte) api.Errno {
	size := uint64(len(value))
	if size > maxShort {
		return cmp.Or(w.U8(x.flags|flagLong), w.U8(x.code), w.U16(size), w.Bytes(value))
	}
	return cmp.Or(w.U8(x.flags), w.U8(x.code), w.U8(size), w.Bytes(value))
}

func (d draft) originValue() ([]byte, bool) {
	return []byte{byte(d.Origin)}, d.announces()
}

func (d draft) pathValue() ([]byte, bool) {
	if len(d.Path) == 0 {
		return nil, d.announces()
	}
	return append([]byte{sequence, byte(len(d.Path))}, numbers(d.Path...)...), d.announces()
}

func (d draft) medValue() ([]byte, bool) {
	return numbers(d.Med), d.HasMed
}

func (d draft) prefValue() ([]byte, bool) {
	return numbers(d.Pref), d.HasPref
}

func (d draft) originatorValue() ([]byte, bool) {
	return numbers(d.Originator), d.HasOriginator
}

func (d draft) clustersValue() ([]byte, bool) {
	return numbers(d.Clusters...), len(d.Clusters) > 0
}

func (d draft) reachValue() ([]byte, bool) {
	w := newWriter()
	w.U24(family)
	w.U8(nextBytes)
	w.U32(uint64(d.Next))
	w.U8(0)
	return append(w.Out(), d.reach...), d.announces()
}

func (d draft) unreachValue() ([]byte, bool) {
	w := newWriter()
	w.U24(family)
	// Without any routes there is this attribute all the same: it is then the End of RIB.
	return append(w.Out(), d.unreach...), len(d.unreach) > 0 || !d.announces()
}

func (d draft) commsValue() ([]byte, bool) {
	var b []byte
	for _, c := range d.Comms {
		b = append(b, c[:]...)
	}
	return b, len(b) > 0
}

func (d draft) tunnelValue() ([]byte, bool) {
	t := d.Tunnel
	w := newWriter()
	w.U8(0)
	w.U8(uint64(t.Kind))
	w.U24(uint64(t.Label))
	w.U32(uint64(t.Root))
	if t.Kind == api.TunnelTree {
		w.U32(uint64(t.Group))
	}
	return w.Out(), t.Kind != api.TunnelNone
}

// announces reports whether there are announced routes.
func (d draft) announces() bool {
	return len(d.reach) > 0
}

// newWriter returns a writer of as many bytes as there may be.
func newWriter() *wire.Writer {
	w, _ := wire.NewWriter(maxBytes)
	return w
}

// numbers returns the bytes of numbers, four for each.
func numbers[N ~uint32](list ...N) []byte {
	w := newWriter()
	for _, n := range list {
		w.U32(uint64(n))
	}
	return w.Out()
}
