package attr

import (
	"leafmesh/api"
	"leafmesh/nlri"
	"leafmesh/wire"
)

// decoder reads attributes and keeps what they say.
type decoder struct {
	*wire.Reader
	api.Attrs
	reach, unreach []api.NLRI
	seen           map[uint64]bool // the codes of the attributes that were read
}

// Read decodes attributes and routes.
func Read(b []byte) (a api.Attrs, reach, unreach []api.NLRI, f api.Fault) {
	d := &decoder{Reader: wire.NewReader(b), seen: map[uint64]bool{}}
	if f = d.read(); f.Err != api.OK {
		return a, nil, nil, f
	}
	// Attributes belong to announced routes; without these they mean nothing.
	if d.seen[codeReach] {
		a = d.Attrs
	}
	return a, d.reach, d.unreach, f
}

// read reads all attributes, or those before the first fault, which it returns.
func (d *decoder) read() (f api.Fault) {
	table, fill := rows(), d.fillers()
attributes:
	for d.Left() > 0 && f.Err == api.OK {
		at := d.At()
		flags, code := d.U8(), d.U8()
		value := d.Sub(d.size(flags))
		if d.Fault().Err != api.OK {
			f = api.Fault{Err: api.ErrShort, At: at}
			continue
		}
		for _, x := range table {
			if x.code != code {
				continue
			}
			if err := d.readKnown(x, flags, value, fill[code]); err != api.OK {
				f = api.Fault{Err: err, At: at}
			}
			continue attributes
		}
		if flags&flagOptional == 0 {
			f = api.Fault{Err: api.ErrAttr, At: at}
		}
	}
	if f.Err == api.OK && d.incomplete() {
		f = api.Fault{Err: api.ErrAttr, At: d.At()}
	}
	return f
}

// size reads the length of a value.
func (d *decoder) size(flags uint64) int {
	if flags&flagLong != 0 {
		return int(d.U16())
	}
	return int(d.U8())
}

// readKnown reads an attribute that has a row in the table.
func (d *decoder) readKnown(x row, flags uint64, value *wire.Reader, fill func(*wire.Reader)) api.Errno {
	if flags&^x.free() != x.flags {
		return api.ErrAttr
	}
	if d.seen[x.code] {
		return api.ErrDouble
	}
	d.seen[x.code] = true
	fill(value)
	if value.Fault().Err != api.OK || value.Left() > 0 {
		return api.ErrForm
	}
	return api.OK
}

// free returns the flags that may be set or not: only an attribute that every speaker passes on, even without knowing it, can be partial.
func (x row) free() uint64 {
	if x.flags == flagOptional|flagTransitive {
		return flagLong | flagPartial
	}
	return flagLong
}

// incomplete reports whether announced routes lack an attribute that they must have.
func (d *decoder) incomplete() bool {
	return d.seen[codeReach] && !(d.seen[codeOrigin] && d.seen[codePath])
}

// fillers returns, for each code, a function that keeps what a value says. It lets the value's reader fail, or leaves bytes, if the value is not of the right form.
func (d *decoder) fillers() map[uint64]func(v *wire.Reader) {
	return map[uint64]func(v *wire.Reader){
		codeOrigin: func(v *wire.Reader) {
			d.Origin = int(v.U8())
			demand(v, d.Origin <= maxOrigin)
		},
		codePath:       func(v *wire.Reader) { d.Path = readPath(v) },
		codeMed:        func(v *wire.Reader) { d.HasMed, d.Med = true, uint32(v.U32()) },
		codePref:       func(v *wire.Reader) { d.HasPref, d.Pref = true, uint32(v.U32()) },
		codeOriginator: func(v *wire.Reader) { d.HasOriginator, d.Originator = true, readIP(v) },
		codeClusters:   func(v *wire.Reader) { d.Clusters = readList(v, api.MaxClusters, readIP) },
		codeReach: func(v *wire.Reader) {
			demand(v, v.U24() == family)
			demand(v, v.U8() == nextBytes)
			d.Next = readIP(v)
			demand(v, v.U8() == 0)
			d.reach = readRoutes(v)
			demand(v, len(d.reach) > 0)
		},
		codeUnreach: func(v *wire.Reader) {
			demand(v, v.U24() == family)
			d.unreach = readRoutes(v)
		},
		codeComms:  func(v *wire.Reader) { d.Comms = readList(v, api.MaxComms, readComm) },
		codeTunnel: func(v *wire.Reader) { d.Tunnel = readTunnel(v) },
	}
}

// demand lets a reader fail unless something is so.
func demand(v *wire.Reader, is bool) {
	if !is {
		v.Fail(api.ErrForm)
	}
}

// readList reads the elements of a list, one or more; it leaves those that are too many.
func readList[E any](v *wire.Reader, most int, read func(*wire.Reader) E) []E {
	var list []E
	for v.Left() > 0 && len(list) < most {
		list = append(list, read(v))
	}
	demand(v, len(list) > 0)
	return list
}

func readPath(v *wire.Reader) []uint32 {
	if v.Left() == 0 {
		return nil
	}
	demand(v, v.U8() == sequence)
	count := v.U8()
	path := readList(v, api.MaxPath, func(v *wire.Reader) uint32 { return uint32(v.U32()) })
	demand(v, count == uint64(len(path)))
	return path
}

func readIP(v *wire.Reader) api.IP {
	return api.IP(v.U32())
}

func readComm(v *wire.Reader) api.Comm {
	var c api.Comm
	copy(c[:], v.Bytes(len(c)))
	return c
}

func readRoutes(v *wire.Reader) []api.NLRI {
	list, fault := nlri.Read(v.Bytes(v.Left()))
	demand(v, fault.Err == api.OK)
	return list
}

func readTunnel(v *wire.Reader) api.Tunnel {
	demand(v, v.U8() == 0)
	t := api.Tunnel{Kind: int(v.U8())}
	demand(v, t.Kind == api.TunnelTree || t.Kind == api.TunnelIngress)
	t.Label = uint32(v.U24())
	t.Root = readIP(v)
	if t.Kind == api.TunnelTree {
		t.Group = readIP(v)
	}
	return t
}
