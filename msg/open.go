package msg

import (
	"leafmesh/api"
	"leafmesh/wire"
)

// Parts of OPEN messages before the capabilities.
const (
	version    = 4
	minHold    = 3 // the least hold time but 0, which says that there is none
	maxShortAS = 65535
	longAS     = 23456 // stands for an AS number that needs more than two bytes
	parameter  = 2     // the code of the parameters that contain capabilities
)

// The codes of the capabilities, and the numbers of bytes that those have which are written.
const (
	codeRoutes  = 0x01
	codeRefresh = 0x02
	codeRestart = 0x40
	codeAS      = 0x41

	routesBytes  = 4
	restartBytes = 6
	asBytes      = 4
	allBytes     = 22 // of all capabilities with their codes and sizes
)

// Parts of the restart capability: the bit that says that the speaker has restarted, and the family of EVPN routes with the flag that forwarding has gone on.
const (
	flagRestarted = 0x8000
	evpnKept      = 0x00194680
)

// offer is what the capabilities of an OPEN message say, and which of them there were.
type offer struct {
	api.Open
	hasRoutes, hasAS, hasRestart bool
}

// writeOpen writes the body of an OPEN message, unless it is not valid.
func writeOpen(w *wire.Writer, o api.Open) api.Errno {
	if !validHold(o.Hold) || o.Restart < 0 || o.Restart > api.MaxRestart {
		return api.ErrRange
	}
	as := uint64(o.AS)
	if as > maxShortAS {
		as = longAS
	}
	list := newWriter(allBytes)
	writeCapabilities(list, o)
	w.U8(version)
	w.U16(as)
	w.U16(uint64(o.Hold))
	w.U32(uint64(o.ID))
	w.U8(uint64(2 + list.Len()))
	beginItem(w, parameter, list.Len())
	return w.Bytes(list.Out())
}

func validHold(hold int) bool {
	return hold == 0 || hold >= minHold && hold <= api.MaxHold
}

// writeCapabilities writes all capabilities of a speaker.
func writeCapabilities(w *wire.Writer, o api.Open) {
	beginItem(w, codeRoutes, routesBytes)
	w.U32(evpn)
	beginItem(w, codeRefresh, 0)
	if o.Restart != 0 || o.Restarted {
		beginItem(w, codeRestart, restartBytes)
		w.U16(restartNumber(o))
		w.U32(evpnKept)
	}
	beginItem(w, codeAS, asBytes)
	w.U32(uint64(o.AS))
}

// restartNumber returns the number of the restart capability.
func restartNumber(o api.Open) uint64 {
	if o.Restarted {
		return flagRestarted | uint64(o.Restart)
	}
	return uint64(o.Restart)
}

// beginItem writes what stands before the bytes of a parameter or a capability.
func beginItem(w *wire.Writer, code uint64, size int) {
	w.U8(code)
	w.U8(uint64(size))
}

// readOpen decodes the body of an OPEN message.
func readOpen(b []byte) (api.Open, api.Errno) {
	r := wire.NewReader(b)
	number := r.U8()
	r.U16() // the AS number is in a capability, too, where it has room
	hold, id, size := int(r.U16()), api.IP(r.U32()), int(r.U8())
	switch {
	case r.Fault().Err != api.OK:
		return api.Open{}, api.ErrForm
	case number != version:
		return api.Open{}, api.ErrVersion
	case !validHold(hold) || size != r.Left():
		return api.Open{}, api.ErrForm
	}
	o := &offer{Open: api.Open{Hold: hold, ID: id}}
	if !visitItems(r.Bytes(size), o.readParameter) || !o.hasRoutes || !o.hasAS {
		return api.Open{}, api.ErrForm
	}
	return o.Open, api.OK
}

// visitItems passes the code and the bytes of each item of b, a sequence of parameters or of capabilities, to a function. It reports whether b is such a sequence and the function accepts each item.
func visitItems(b []byte, accept func(code byte, value []byte) bool) bool {
	if len(b) == 0 {
		return true
	}
	if len(b) < 2 || len(b)-2 < int(b[1]) {
		return false
	}
	end := 2 + int(b[1])
	return accept(b[0], b[2:end]) && visitItems(b[end:], accept)
}

// readParameter keeps what a parameter says, and reports whether it is of the right form.
func (o *offer) readParameter(code byte, value []byte) bool {
	return code == parameter && visitItems(value, o.readCapability)
}

// readCapability keeps what a capability says, and reports whether it is of the right form. Of several ones with the same code the first one counts.
func (o *offer) readCapability(code byte, value []byte) bool {
	r := wire.NewReader(value)
	switch {
	case code == codeRoutes && len(value) == routesBytes && r.U32() == evpn:
		o.hasRoutes = true
	case code == codeAS && len(value) == asBytes && !o.hasAS:
		o.hasAS, o.AS = true, uint32(r.U32())
	case code == codeRestart && !o.hasRestart:
		number := r.U16()
		o.hasRestart, o.Restarted, o.Restart = true, number&flagRestarted != 0, int(number&api.MaxRestart)
	}
	return r.Fault().Err == api.OK
}
