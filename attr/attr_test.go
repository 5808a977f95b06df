package attr_test

import (
	"math"
	"testing"

	"leafmesh/api"
	"leafmesh/attr"
)

// change gives attributes a value; want is what Check then returns.
type change struct {
	name string
	set  func(a *api.Attrs)
	want api.Errno
}

// The routes of the tests: their bytes are those of layer 4.
var (
	floodRoute   = api.NLRI{Kind: 3, RD: 0x0001_0aff0001_0005, IP: 0x0aff0001, HasIP: true}
	autoRoute    = api.NLRI{Kind: 1, RD: 7, ESI: api.ESI{1, 9: 2}, Tag: 3, Label: 4}
	macRoute     = api.NLRI{Kind: 2, RD: 7, MAC: 0x020000000007, IP: 0x0a000001, HasIP: true, Label: 5, Label2: 6}
	segmentRoute = api.NLRI{Kind: 4, RD: 7, ESI: api.ESI{1, 9: 2}, IP: 0x0aff0001, HasIP: true}
	prefixRoute  = api.NLRI{Kind: 5, RD: 7, Prefix: api.Prefix{IP: 0x0a000000, Len: 8}, Gateway: 1, Label: 9}
)

// valid are changes that Check accepts, of each field, to its least and its greatest value.
var valid = []change{
	{"Origin 1", func(a *api.Attrs) { a.Origin = 1 }, api.OK},
	{"Origin 2", func(a *api.Attrs) { a.Origin = 2 }, api.OK},
	{"Path", func(a *api.Attrs) { a.Path = []uint32{0} }, api.OK},
	{"the longest Path", func(a *api.Attrs) { a.Path = make([]uint32, 32) }, api.OK},
	{"Next", func(a *api.Attrs) { a.Next = 1 }, api.OK},
	{"the greatest Next", func(a *api.Attrs) { a.Next = math.MaxUint32 }, api.OK},
	{"HasMed", func(a *api.Attrs) { a.HasMed = true }, api.OK},
	{"the greatest Med", func(a *api.Attrs) { a.HasMed, a.Med = true, math.MaxUint32 }, api.OK},
	{"HasPref", func(a *api.Attrs) { a.HasPref = true }, api.OK},
	{"the greatest Pref", func(a *api.Attrs) { a.HasPref, a.Pref = true, math.MaxUint32 }, api.OK},
	{"HasOriginator", func(a *api.Attrs) { a.HasOriginator = true }, api.OK},
	{"the greatest Originator", func(a *api.Attrs) { a.HasOriginator, a.Originator = true, math.MaxUint32 }, api.OK},
	{"Clusters", func(a *api.Attrs) { a.Clusters = []api.IP{0} }, api.OK},
	{"the longest Clusters", func(a *api.Attrs) { a.Clusters = make([]api.IP, 16) }, api.OK},
	{"Comms", func(a *api.Attrs) { a.Comms = []api.Comm{{}} }, api.OK},
	{"the longest Comms", func(a *api.Attrs) { a.Comms = make([]api.Comm, 64) }, api.OK},
	{"a tree", func(a *api.Attrs) { a.Tunnel = api.Tunnel{Kind: 3} }, api.OK},
	{"the greatest tree", func(a *api.Attrs) {
		a.Tunnel = api.Tunnel{Kind: 3, Label: 1<<24 - 1, Root: math.MaxUint32, Group: math.MaxUint32}
	}, api.OK},
	{"ingress", func(a *api.Attrs) { a.Tunnel = api.Tunnel{Kind: 6} }, api.OK},
	{"the greatest ingress", func(a *api.Attrs) {
		a.Tunnel = api.Tunnel{Kind: 6, Label: 1<<24 - 1, Root: math.MaxUint32}
	}, api.OK},
}

// faulty are changes that Check does not accept; an error that comes later counts less. Of the tunnels each one has its first error alone.
var faulty = []change{
	{"Origin 3", func(a *api.Attrs) { a.Origin = 3 }, api.ErrRange},
	{"Origin -1", func(a *api.Attrs) { a.Origin = -1 }, api.ErrRange},
	{"Origin 256", func(a *api.Attrs) { a.Origin = 256 }, api.ErrRange},
	{"the least Origin", func(a *api.Attrs) { a.Origin = math.MinInt }, api.ErrRange},
	{"the greatest Origin", func(a *api.Attrs) { a.Origin = math.MaxInt }, api.ErrRange},
	{"Path too long", func(a *api.Attrs) { a.Path = make([]uint32, 33) }, api.ErrLong},
	{"Path far too long", func(a *api.Attrs) { a.Path = make([]uint32, 1000) }, api.ErrLong},
	{"Clusters too long", func(a *api.Attrs) { a.Clusters = make([]api.IP, 17) }, api.ErrLong},
	{"Clusters far too long", func(a *api.Attrs) { a.Clusters = make([]api.IP, 64) }, api.ErrLong},
	{"Comms too long", func(a *api.Attrs) { a.Comms = make([]api.Comm, 65) }, api.ErrLong},
	{"Comms far too long", func(a *api.Attrs) { a.Comms = make([]api.Comm, 10000) }, api.ErrLong},
	{"Med without HasMed", func(a *api.Attrs) { a.HasMed, a.Med = false, 1 }, api.ErrForm},
	{"the greatest Med without HasMed", func(a *api.Attrs) { a.HasMed, a.Med = false, math.MaxUint32 }, api.ErrForm},
	{"Pref without HasPref", func(a *api.Attrs) { a.HasPref, a.Pref = false, 1 }, api.ErrForm},
	{"Originator without HasOriginator", func(a *api.Attrs) { a.HasOriginator, a.Originator = false, 1 }, api.ErrForm},
	{"the tunnel 1", func(a *api.Attrs) { a.Tunnel.Kind = 1 }, api.ErrType},
	{"the tunnel 2", func(a *api.Attrs) { a.Tunnel.Kind = 2 }, api.ErrType},
	{"the tunnel 4", func(a *api.Attrs) { a.Tunnel.Kind = 4 }, api.ErrType},
	{"the tunnel 5", func(a *api.Attrs) { a.Tunnel.Kind = 5 }, api.ErrType},
	{"the tunnel 7", func(a *api.Attrs) { a.Tunnel.Kind = 7 }, api.ErrType},
	{"the tunnel -1", func(a *api.Attrs) { a.Tunnel.Kind = -1 }, api.ErrType},
	{"the tunnel 256", func(a *api.Attrs) { a.Tunnel.Kind = 256 }, api.ErrType},
	{"the tunnel 256 + 6", func(a *api.Attrs) { a.Tunnel.Kind = 262 }, api.ErrType},
	{"the least tunnel", func(a *api.Attrs) { a.Tunnel.Kind = math.MinInt }, api.ErrType},
	{"the greatest tunnel", func(a *api.Attrs) { a.Tunnel.Kind = math.MaxInt }, api.ErrType},
	{"Label above the greatest", func(a *api.Attrs) { a.Tunnel = api.Tunnel{Label: 1 << 24} }, api.ErrRange},
	{"Label of a tree above the greatest", func(a *api.Attrs) { a.Tunnel = api.Tunnel{Kind: 3, Label: 1 << 24} }, api.ErrRange},
	{"Label of ingress far above", func(a *api.Attrs) { a.Tunnel = api.Tunnel{Kind: 6, Label: math.MaxUint32} }, api.ErrRange},
	{"Label without a tunnel", func(a *api.Attrs) { a.Tunnel = api.Tunnel{Label: 1} }, api.ErrForm},
	{"Root without a tunnel", func(a *api.Attrs) { a.Tunnel = api.Tunnel{Root: 1} }, api.ErrForm},
	{"Group without a tunnel", func(a *api.Attrs) { a.Tunnel = api.Tunnel{Group: 1} }, api.ErrForm},
	{"Group of ingress", func(a *api.Attrs) { a.Tunnel = api.Tunnel{Kind: 6, Group: 1} }, api.ErrForm},
}

// wantCheck checks what Check returns, and that Bytes with a route returns the same error and no bytes with it.
func wantCheck(t *testing.T, name string, a api.Attrs, want api.Errno) {
	t.Helper()
	if err := attr.Check(a); err != want {
		t.Errorf("%s: Check = %v, want %v", name, err, want)
	}
	b, err := attr.Bytes(a, []api.NLRI{floodRoute}, nil)
	if err != want || (len(b) == 0) != (want != api.OK) {
		t.Errorf("%s: Bytes = % x, %v, want %v", name, b, err, want)
	}
}

// P5.1: each field may have any value within its limits, also together with the others.
func TestCheckValid(t *testing.T) {
	wantCheck(t, "zero", api.Attrs{}, api.OK)
	var all api.Attrs
	for _, c := range valid {
		var a api.Attrs
		c.set(&a)
		wantCheck(t, c.name, a, c.want)
		c.set(&all)
		wantCheck(t, c.name+" behind the others", all, c.want)
	}
}

// P5.1, R5: values beyond the limits, and values of what is absent, have an error, whatever else there is.
func TestCheckFaulty(t *testing.T) {
	for _, c := range faulty {
		var a, all api.Attrs
		c.set(&a)
		wantCheck(t, c.name, a, c.want)
		for _, v := range valid {
			v.set(&all)
		}
		c.set(&all)
		wantCheck(t, c.name+" with all fields", all, c.want)
	}
}

// P5.1: lists may have any length up to the limit.
func TestCheckLengths(t *testing.T) {
	for n := range 70 {
		wantCheck(t, "Path", api.Attrs{Path: make([]uint32, n)}, longer(n, 32))
		wantCheck(t, "Clusters", api.Attrs{Clusters: make([]api.IP, n)}, longer(n, 16))
		wantCheck(t, "Comms", api.Attrs{Comms: make([]api.Comm, n)}, longer(n, 64))
	}
}

// longer returns the error of a list of n elements.
func longer(n, most int) api.Errno {
	if n > most {
		return api.ErrLong
	}
	return api.OK
}

// isTunnel reports whether a change is one of the tunnel alone.
func (c change) isTunnel() bool {
	var a api.Attrs
	c.set(&a)
	return a.Tunnel != api.Tunnel{}
}

// P5.1, R1: of several errors the first one counts.
func TestCheckOrder(t *testing.T) {
	for i, first := range faulty {
		for _, second := range faulty[i+1:] {
			// Changes of other fields than the tunnel have the same error if they change the same field.
			if first.isTunnel() && second.isTunnel() {
				continue
			}
			var a api.Attrs
			first.set(&a)
			second.set(&a)
			wantCheck(t, first.name+", "+second.name, a, first.want)
		}
	}
	wantCheck(t, "kind before label", api.Attrs{Tunnel: api.Tunnel{Kind: 1, Label: 1 << 24}}, api.ErrType)
	wantCheck(t, "kind before group", api.Attrs{Tunnel: api.Tunnel{Kind: 5, Group: 1}}, api.ErrType)
	wantCheck(t, "label before root", api.Attrs{Tunnel: api.Tunnel{Label: 1 << 24, Root: 1}}, api.ErrRange)
	wantCheck(t, "label before group", api.Attrs{Tunnel: api.Tunnel{Kind: 6, Label: 1 << 24, Group: 1}}, api.ErrRange)
}

// P5.1: attributes are zero if no field differs from zero, valid or not; a list without elements does not.
func TestZero(t *testing.T) {
	for _, a := range []api.Attrs{{}, {Path: []uint32{}, Clusters: []api.IP{}, Comms: []api.Comm{}}, {Path: make([]uint32, 0, 5)}} {
		if !attr.Zero(a) {
			t.Errorf("Zero(%+v) is false", a)
		}
	}
	for _, list := range [][]change{valid, faulty} {
		for _, c := range list {
			var a api.Attrs
			c.set(&a)
			if attr.Zero(a) {
				t.Errorf("%s: Zero(%+v) is true", c.name, a)
			}
		}
	}
}
