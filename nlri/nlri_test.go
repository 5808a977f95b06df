package nlri_test

import (
	"fmt"
	"math"
	"slices"
	"strconv"
	"strings"
	"testing"

	"leafmesh/api"
	"leafmesh/nlri"
)

// field is a field of a route: the kinds that use it, and a function that gives it a value.
type field struct {
	name  string
	kinds string
	set   func(n *api.NLRI)
}

// fields are all fields but Kind, with values that are in their ranges; an address is set together with HasIP.
var fields = []field{
	{"RD", "12345", func(n *api.NLRI) { n.RD = 1 }},
	{"the greatest RD", "12345", func(n *api.NLRI) { n.RD = math.MaxUint64 }},
	{"the first byte of ESI", "1245", func(n *api.NLRI) { n.ESI[0] = 1 }},
	{"the last byte of ESI", "1245", func(n *api.NLRI) { n.ESI[9] = 0xff }},
	{"Tag", "1235", func(n *api.NLRI) { n.Tag = 1 }},
	{"the greatest Tag", "1235", func(n *api.NLRI) { n.Tag = math.MaxUint32 }},
	{"MAC", "2", func(n *api.NLRI) { n.MAC = 1 }},
	{"the greatest MAC", "2", func(n *api.NLRI) { n.MAC = 1<<48 - 1 }},
	{"HasIP", "234", func(n *api.NLRI) { n.HasIP = true }},
	{"HasIP and IP", "234", func(n *api.NLRI) { n.HasIP, n.IP = true, 1 }},
	{"the greatest IP", "234", func(n *api.NLRI) { n.HasIP, n.IP = true, math.MaxUint32 }},
	{"Prefix.IP and Len", "5", func(n *api.NLRI) { n.Prefix = api.Prefix{IP: 1 << 31, Len: 1} }},
	{"Prefix.Len", "5", func(n *api.NLRI) { n.Prefix.Len = 1 }},
	{"the greatest Prefix", "5", func(n *api.NLRI) { n.Prefix = api.Prefix{IP: math.MaxUint32, Len: 32} }},
	{"Gateway", "5", func(n *api.NLRI) { n.Gateway = 1 }},
	{"the greatest Gateway", "5", func(n *api.NLRI) { n.Gateway = math.MaxUint32 }},
	{"Label", "125", func(n *api.NLRI) { n.Label = 1 }},
	{"the greatest Label", "125", func(n *api.NLRI) { n.Label = 1<<24 - 1 }},
	{"Label2", "2", func(n *api.NLRI) { n.Label2 = 1 }},
	{"the greatest Label2", "2", func(n *api.NLRI) { n.Label2 = 1<<24 - 1 }},
}

// faulty are fields with values out of their ranges.
var faulty = []field{
	{"MAC above the greatest", "2", func(n *api.NLRI) { n.MAC = 1 << 48 }},
	{"MAC far above", "2", func(n *api.NLRI) { n.MAC = math.MaxUint64 }},
	{"Label above the greatest", "125", func(n *api.NLRI) { n.Label = 1 << 24 }},
	{"Label far above", "125", func(n *api.NLRI) { n.Label = math.MaxUint32 }},
	{"Label2 above the greatest", "2", func(n *api.NLRI) { n.Label2 = 1 << 24 }},
	{"Label2 far above", "2", func(n *api.NLRI) { n.Label2 = math.MaxUint32 }},
	{"Prefix.Len 33", "5", func(n *api.NLRI) { n.Prefix.Len = 33 }},
	{"Prefix.Len -1", "5", func(n *api.NLRI) { n.Prefix.Len = -1 }},
	{"Prefix.Len 256", "5", func(n *api.NLRI) { n.Prefix.Len = 256 }},
	{"the least Prefix.Len", "5", func(n *api.NLRI) { n.Prefix.Len = math.MinInt }},
	{"the greatest Prefix.Len", "5", func(n *api.NLRI) { n.Prefix.Len = math.MaxInt }},
}

// unclean are prefixes with bits after their length.
var unclean = []api.Prefix{
	{IP: 1, Len: 31},
	{IP: 1, Len: 0},
	{IP: 1 << 31, Len: 0},
	{IP: 0x0a010203, Len: 16},
	{IP: 0x0a010200, Len: 22},
	{IP: math.MaxUint32, Len: 31},
}

// uses reports whether a kind uses a field.
func (f field) uses(kind int) bool {
	return strings.Contains(f.kinds, strconv.Itoa(kind))
}

// plain returns the route of a kind whose fields are zero, as far as they may be.
func plain(kind int) api.NLRI {
	return api.NLRI{Kind: kind, HasIP: kind == 3 || kind == 4}
}

// wantCheck checks what Check returns, and that Bytes returns the same error and no bytes with it.
func wantCheck(t *testing.T, name string, n api.NLRI, want api.Errno) {
	t.Helper()
	if err := nlri.Check(n); err != want {
		t.Errorf("%s: Check(%+v) = %v, want %v", name, n, err, want)
	}
	b, err := nlri.Bytes(n)
	if err != want || (len(b) == 0) != (want != api.OK) {
		t.Errorf("%s: Bytes(%+v) = % x, %v, want %v", name, n, b, err, want)
	}
}

// P4.1: the fields that a kind uses may have any value in their ranges, the others have to be zero.
func TestCheckFields(t *testing.T) {
	for kind := 1; kind <= 5; kind++ {
		wantCheck(t, "without fields", plain(kind), api.OK)
		all := plain(kind)
		for _, f := range fields {
			n, want := plain(kind), api.ErrForm
			if f.uses(kind) {
				want = api.OK
				f.set(&all)
			}
			f.set(&n)
			wantCheck(t, f.name, n, want)
		}
		wantCheck(t, "with all fields", all, api.OK)
		for _, f := range fields {
			if n := all; !f.uses(kind) {
				f.set(&n)
				wantCheck(t, "with all fields and "+f.name, n, api.ErrForm)
			}
		}
	}
}

// P4.1: an address alone, without HasIP, is no field of any kind.
func TestCheckAddress(t *testing.T) {
	for kind := 1; kind <= 5; kind++ {
		for _, ip := range []api.IP{1, 0x0aff0001, math.MaxUint32} {
			wantCheck(t, "IP without HasIP", api.NLRI{Kind: kind, IP: ip}, api.ErrForm)
		}
	}
	wantCheck(t, "no address", api.NLRI{Kind: 2}, api.OK)
	wantCheck(t, "the address zero", api.NLRI{Kind: 2, HasIP: true}, api.OK)
	for _, kind := range []int{3, 4} {
		wantCheck(t, "no address", api.NLRI{Kind: kind}, api.ErrForm)
		wantCheck(t, "no address", api.NLRI{Kind: kind, RD: 7}, api.ErrForm)
		wantCheck(t, "the address zero", api.NLRI{Kind: kind, HasIP: true}, api.OK)
	}
}

// P4.1: a value out of its range is ErrRange in a field that is used, and ErrForm in one that is not.
func TestCheckRanges(t *testing.T) {
	for kind := 1; kind <= 5; kind++ {
		for _, f := range faulty {
			n, want := plain(kind), api.ErrForm
			if f.uses(kind) {
				want = api.ErrRange
			}
			f.set(&n)
			wantCheck(t, f.name, n, want)
		}
	}
}

// P4.1: a prefix is clean, with every length.
func TestCheckPrefixes(t *testing.T) {
	for length := range 33 {
		ip := api.IP(math.MaxUint32 << (32 - length))
		n := api.NLRI{Kind: 5, Prefix: api.Prefix{IP: ip, Len: length}}
		wantCheck(t, "clean", n, api.OK)
		if length < 32 {
			n.Prefix.IP |= 1 << (31 - length)
			wantCheck(t, "with the next bit", n, api.ErrForm)
			n.Prefix.IP = ip | 1
			wantCheck(t, "with the last bit", n, api.ErrForm)
		}
	}
	for _, p := range unclean {
		wantCheck(t, "unclean", api.NLRI{Kind: 5, Prefix: p}, api.ErrForm)
	}
}

// P4.1, R1: fields that are not used come before ranges, and ranges before clean prefixes.
func TestCheckOrder(t *testing.T) {
	for _, f := range faulty {
		for kind := 1; kind <= 5; kind++ {
			n := plain(kind)
			f.set(&n)
			for _, g := range fields {
				if both := n; !g.uses(kind) {
					g.set(&both)
					wantCheck(t, f.name+", "+g.name, both, api.ErrForm)
				}
			}
		}
		if n := (api.NLRI{Kind: 2, IP: 1}); f.uses(2) {
			f.set(&n)
			wantCheck(t, f.name+", IP without HasIP", n, api.ErrForm)
		}
		for _, p := range unclean {
			n := api.NLRI{Kind: 5, Prefix: p}
			f.set(&n)
			want := api.ErrForm
			if f.uses(5) {
				want = api.ErrRange
			}
			wantCheck(t, f.name+", unclean", n, want)
		}
	}
	wantCheck(t, "Gateway, MAC", api.NLRI{Kind: 2, MAC: 1 << 48, Gateway: 1}, api.ErrForm)
	wantCheck(t, "Label2, Label", api.NLRI{Kind: 1, Label: 1 << 24, Label2: 1}, api.ErrForm)
	wantCheck(t, "HasIP, Prefix.Len", api.NLRI{Kind: 5, Prefix: api.Prefix{Len: 33}, HasIP: true}, api.ErrForm)
	wantCheck(t, "no address, RD", api.NLRI{Kind: 3, RD: 1, Label: 1 << 24}, api.ErrForm)
}

// P4.1, R5: of the kinds there are five; the fields of the others do not matter.
func TestCheckKinds(t *testing.T) {
	for _, kind := range []int{0, 6, 7, 255, 256, 257, 258, 261, -1, -2, 1 << 32, 1<<32 + 2, math.MinInt, math.MaxInt} {
		wantCheck(t, "kind", api.NLRI{Kind: kind}, api.ErrType)
		for _, list := range [][]field{fields, faulty} {
			for _, f := range list {
				n := api.NLRI{Kind: kind}
				f.set(&n)
				wantCheck(t, f.name, n, api.ErrType)
			}
		}
	}
	wantCheck(t, "zero", api.NLRI{}, api.ErrType)
}

// full is a route whose fields all differ from zero.
func full(kind int) api.NLRI {
	return api.NLRI{Kind: kind, RD: 1, ESI: api.ESI{2, 9: 3}, Tag: 4, MAC: 5, IP: 6, HasIP: true, Prefix: api.Prefix{IP: 7, Len: 8}, Gateway: 9, Label: 10, Label2: 11}
}

// P4.3: a key has no labels; that of an address has no identifier, that of a prefix no identifier and no gateway.
func TestKey(t *testing.T) {
	for _, kind := range []int{0, 1, 2, 3, 4, 5, 6, 7, -1, -2, 258, math.MinInt, math.MaxInt} {
		want := full(kind)
		want.Label, want.Label2 = 0, 0
		if kind == 2 || kind == 5 {
			want.ESI = api.ESI{}
		}
		if kind == 5 {
			want.Gateway = 0
		}
		if got := nlri.Key(full(kind)); got != want {
			t.Errorf("Key(%+v) = %+v, want %+v", full(kind), got, want)
		}
		if got := nlri.Key(api.NLRI{Kind: kind}); got != (api.NLRI{Kind: kind}) {
			t.Errorf("Key of a route without fields = %+v", got)
		}
	}
}

// wantCompare checks how two routes compare, in both orders.
func wantCompare(t *testing.T, name string, a, b api.NLRI, want int) {
	t.Helper()
	if got := nlri.Compare(a, b); got != want {
		t.Errorf("%s: Compare(%+v, %+v) = %d, want %d", name, a, b, got, want)
	}
	if got := nlri.Compare(b, a); got != -want {
		t.Errorf("%s: Compare(%+v, %+v) = %d, want %d", name, b, a, got, -want)
	}
}

// step is a place in the order of keys: the kinds in which it counts, and two values for it of which the first one is less.
type step struct {
	name       string
	kinds      []int
	less, more func(n *api.NLRI)
}

// steps are the places in the order of keys, the first one first; the bytes of an identifier are places of their own.
func steps() []step {
	every := []int{0, 1, 2, 3, 4, 5, 6, -1}
	list := []step{{"RD", every, func(n *api.NLRI) { n.RD = 1 }, func(n *api.NLRI) { n.RD = 1 << 63 }}}
	for i := range 10 {
		list = append(list, step{fmt.Sprint("byte ", i, " of ESI"), []int{0, 1, 3, 4, 6, -1}, func(n *api.NLRI) { n.ESI[i] = 1 }, func(n *api.NLRI) { n.ESI[i] = 0x80 }})
	}
	return append(list, []step{
		{"Tag", every, func(n *api.NLRI) { n.Tag = 1 }, func(n *api.NLRI) { n.Tag = 1 << 31 }},
		{"MAC", every, func(n *api.NLRI) { n.MAC = 1 }, func(n *api.NLRI) { n.MAC = 1 << 63 }},
		{"HasIP", every, func(n *api.NLRI) { n.HasIP = false }, func(n *api.NLRI) { n.HasIP = true }},
		{"IP", every, func(n *api.NLRI) { n.IP = 1 }, func(n *api.NLRI) { n.IP = 1 << 31 }},
		{"Prefix.IP", every, func(n *api.NLRI) { n.Prefix.IP = 1 }, func(n *api.NLRI) { n.Prefix.IP = 1 << 31 }},
		{"Prefix.Len", every, func(n *api.NLRI) { n.Prefix.Len = -1 }, func(n *api.NLRI) { n.Prefix.Len = 1 }},
		{"Gateway", []int{0, 1, 2, 3, 4, 6, -1}, func(n *api.NLRI) { n.Gateway = 1 }, func(n *api.NLRI) { n.Gateway = 1 << 31 }},
	}...)
}

// P4.3: each field counts more than all later ones, and numbers are ascending; what is no part of the key does not count.
func TestCompareFields(t *testing.T) {
	for _, kind := range []int{0, 1, 2, 3, 4, 5, 6, -1} {
		list := steps()
		for i, s := range list {
			a, b := api.NLRI{Kind: kind}, api.NLRI{Kind: kind}
			s.less(&a)
			s.more(&b)
			want := 0
			if slices.Contains(s.kinds, kind) {
				want = -1
			}
			wantCompare(t, s.name, a, b, want)
			if want == 0 {
				continue
			}
			for _, later := range list[i+1:] {
				later.more(&a)
				later.less(&b)
			}
			a.Label, a.Label2 = 9, 9
			wantCompare(t, s.name+" before later ones", a, b, want)
		}
	}
}

// P4.3: the kind counts most, whether or not it is one of the five.
func TestCompareKinds(t *testing.T) {
	kinds := []int{math.MinInt, -1, 0, 1, 2, 3, 4, 5, 6, 256, math.MaxInt}
	for i, kind := range kinds {
		for _, other := range kinds[i+1:] {
			wantCompare(t, "kinds", full(kind), api.NLRI{Kind: other}, -1)
			wantCompare(t, "kinds", api.NLRI{Kind: kind}, full(other), -1)
			wantCompare(t, "kinds", full(kind), full(other), -1)
		}
		wantCompare(t, "the same kind", full(kind), full(kind), 0)
	}
}

// P4.3: labels are no part of any key.
func TestCompareLabels(t *testing.T) {
	for _, kind := range []int{0, 1, 2, 3, 4, 5, 6, -1} {
		for _, labels := range [][2]uint32{{0, 0}, {10, 0}, {0, 11}, {1, 1}, {math.MaxUint32, math.MaxUint32}} {
			n := full(kind)
			n.Label, n.Label2 = labels[0], labels[1]
			wantCompare(t, "labels", full(kind), n, 0)
		}
	}
}

// P4.4: a distinguisher has the type 1, an address and a number.
func TestRD(t *testing.T) {
	tests := []struct {
		ip   api.IP
		n    uint16
		want uint64
	}{
		{0, 0, 0x0001_00000000_0000},
		{0x0aff0001, 5, 0x0001_0aff0001_0005},
		{0x01020304, 0x0506, 0x0001_01020304_0506},
		{math.MaxUint32, 0, 0x0001_ffffffff_0000},
		{0, math.MaxUint16, 0x0001_00000000_ffff},
		{math.MaxUint32, math.MaxUint16, 0x0001_ffffffff_ffff},
	}
	for _, x := range tests {
		if got := nlri.RD(x.ip, x.n); got != x.want {
			t.Errorf("RD(%#x, %#x) = %#x, want %#x", x.ip, x.n, got, x.want)
		}
		if ip, n, is := nlri.RDOf(x.want); ip != x.ip || n != x.n || !is {
			t.Errorf("RDOf(%#x) = %#x, %#x, %v", x.want, ip, n, is)
		}
	}
}

// P4.4: a distinguisher of another type has no parts.
func TestRDOfOthers(t *testing.T) {
	for _, rd := range []uint64{0, 5, 0x0aff0001_0005, 0xffff_ffff_ffff, 0x0002_0aff0001_0005, 0x0003_0aff0001_0005, 0x0101_0aff0001_0005, 0x0100_0aff0001_0005, 0x8001_0aff0001_0005, 0xffff_0aff0001_0005, math.MaxUint64} {
		if ip, n, is := nlri.RDOf(rd); ip != 0 || n != 0 || is {
			t.Errorf("RDOf(%#x) = %#x, %#x, %v", rd, ip, n, is)
		}
	}
	for high := range uint64(1 << 16) {
		if _, _, is := nlri.RDOf(high<<48 | 0x0aff0001_0005); is != (high == 1) {
			t.Errorf("RDOf of the type %#x: %v", high, is)
		}
	}
}
