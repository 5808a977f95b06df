package attr_test

import (
	"bytes"
	"encoding/hex"
	"slices"
	"strings"
	"testing"

	"leafmesh/api"
	"leafmesh/attr"
)

// The bytes of the routes of the tests, in hexadecimal digits.
const (
	floodText   = "03 11 00010aff00010005 00000000 20 0aff0001"
	autoText    = "01 19 0000000000000007 01000000000000000002 00000003 000004"
	macText     = "02 28 0000000000000007 00000000000000000000 00000000 30 020000000007 20 0a000001 000005 000006"
	segmentText = "04 17 0000000000000007 01000000000000000002 20 0aff0001"
	prefixText  = "05 22 0000000000000007 00000000000000000000 00000000 08 0a000000 00000001 000009"
)

// What is written for announced routes with attributes that are zero, before and behind the other attributes.
const (
	plainText = "40 01 01 00  40 02 00"
	reachText = "80 0e 1c 001946 04 00000000 00 " + floodText
)

// code is attributes with routes, and the bytes of all that.
type code struct {
	name           string
	a              api.Attrs
	reach, unreach []api.NLRI
	text           string
}

var flood = []api.NLRI{floodRoute}

// codes are attributes with each field alone, with all of them, and with none.
var codes = []code{
	{"nothing", api.Attrs{}, nil, nil, "80 0f 03 001946"},
	{"withdrawn", api.Attrs{}, nil, flood, "80 0f 16 001946" + floodText},
	{"withdrawn routes", api.Attrs{}, nil, []api.NLRI{autoRoute, macRoute}, "80 0f 48 001946" + autoText + macText},
	{"announced", api.Attrs{}, flood, nil, plainText + reachText},
	{"announced routes", api.Attrs{}, []api.NLRI{prefixRoute, floodRoute, autoRoute, floodRoute}, nil,
		plainText + "80 0e 6e 001946 04 00000000 00" + prefixText + floodText + autoText + floodText},
	{"both", api.Attrs{}, flood, []api.NLRI{macRoute}, plainText + reachText + "80 0f 2d 001946" + macText},
	{"the same routes", api.Attrs{}, flood, flood, plainText + reachText + "80 0f 16 001946" + floodText},
	{"Origin 1", api.Attrs{Origin: 1}, flood, nil, "40 01 01 01  40 02 00" + reachText},
	{"Origin 2", api.Attrs{Origin: 2}, flood, nil, "40 01 01 02  40 02 00" + reachText},
	{"Path", api.Attrs{Path: []uint32{0x01020304}}, flood, nil, "40 01 01 00  40 02 06 02 01 01020304" + reachText},
	{"a Path of zeros", api.Attrs{Path: []uint32{0, 0}}, flood, nil, "40 01 01 00  40 02 0a 02 02 00000000 00000000" + reachText},
	{"the longest Path", api.Attrs{Path: slices.Repeat([]uint32{0x01020304, 0xffffffff}, 16)}, flood, nil,
		"40 01 01 00  40 02 82 02 20" + strings.Repeat("01020304 ffffffff", 16) + reachText},
	{"Next", api.Attrs{Next: 0x0aff0001}, flood, nil, plainText + "80 0e 1c 001946 04 0aff0001 00" + floodText},
	{"Med", api.Attrs{HasMed: true, Med: 0x01020304}, flood, nil, plainText + "80 04 04 01020304" + reachText},
	{"Med 0", api.Attrs{HasMed: true}, flood, nil, plainText + "80 04 04 00000000" + reachText},
	{"Pref", api.Attrs{HasPref: true, Pref: 0x01020304}, flood, nil, plainText + "40 05 04 01020304" + reachText},
	{"Pref 0", api.Attrs{HasPref: true}, flood, nil, plainText + "40 05 04 00000000" + reachText},
	{"Originator", api.Attrs{HasOriginator: true, Originator: 0x01020304}, flood, nil, plainText + "80 09 04 01020304" + reachText},
	{"Originator 0", api.Attrs{HasOriginator: true}, flood, nil, plainText + "80 09 04 00000000" + reachText},
	{"Clusters", api.Attrs{Clusters: []api.IP{0x01020304}}, flood, nil, plainText + "80 0a 04 01020304" + reachText},
	{"the longest Clusters", api.Attrs{Clusters: slices.Repeat([]api.IP{2, 1}, 8)}, flood, nil,
		plainText + "80 0a 40" + strings.Repeat("00000002 00000001", 8) + reachText},
	{"Comms", api.Attrs{Comms: []api.Comm{{1, 2, 3, 4, 5, 6, 7, 8}}}, flood, nil, plainText + reachText + "c0 10 08 0102030405060708"},
	{"Comms of a short value", api.Attrs{Comms: slices.Repeat([]api.Comm{{7: 1}}, 31)}, flood, nil,
		plainText + reachText + "c0 10 f8" + strings.Repeat("0000000000000001", 31)},
	{"Comms of a long value", api.Attrs{Comms: slices.Repeat([]api.Comm{{7: 1}}, 32)}, flood, nil,
		plainText + reachText + "d0 10 0100" + strings.Repeat("0000000000000001", 32)},
	{"the longest Comms", api.Attrs{Comms: slices.Repeat([]api.Comm{{9, 7: 1}, {8}}, 32)}, flood, nil,
		plainText + reachText + "d0 10 0200" + strings.Repeat("0900000000000001 0800000000000000", 32)},
	{"a tree", api.Attrs{Tunnel: api.Tunnel{Kind: 3, Label: 0x010203, Root: 0x04050607, Group: 0x08090a0b}}, flood, nil,
		plainText + reachText + "c0 16 0d 00 03 010203 04050607 08090a0b"},
	{"a tree of zeros", api.Attrs{Tunnel: api.Tunnel{Kind: 3}}, flood, nil, plainText + reachText + "c0 16 0d 00 03 000000 00000000 00000000"},
	{"ingress", api.Attrs{Tunnel: api.Tunnel{Kind: 6, Label: 0x010203, Root: 0x04050607}}, flood, nil,
		plainText + reachText + "c0 16 09 00 06 010203 04050607"},
	{"ingress of zeros", api.Attrs{Tunnel: api.Tunnel{Kind: 6}}, flood, nil, plainText + reachText + "c0 16 09 00 06 000000 00000000"},
	{"all", fullAttrs(), flood, []api.NLRI{autoRoute},
		"40 01 01 02  40 02 0a 02 02 00000001 00000002  80 04 04 00000004  40 05 04 00000005  80 09 04 00000006  80 0a 08 00000007 00000008" +
			"80 0e 1c 001946 04 00000003 00" + floodText + "80 0f 1e 001946" + autoText +
			"c0 10 10 0900000000000000 0a00000000000000  c0 16 0d 00 03 00000b 0000000c 0000000d"},
}

// fullAttrs returns attributes whose fields all differ from zero.
func fullAttrs() api.Attrs {
	return api.Attrs{
		Origin: 2, Path: []uint32{1, 2}, Next: 3, HasMed: true, Med: 4, HasPref: true, Pref: 5, HasOriginator: true, Originator: 6,
		Clusters: []api.IP{7, 8}, Comms: []api.Comm{{9}, {10}}, Tunnel: api.Tunnel{Kind: 3, Label: 11, Root: 12, Group: 13},
	}
}

// unhex returns the bytes that hexadecimal digits stand for; spaces between them do not matter.
func unhex(t *testing.T, text string) []byte {
	t.Helper()
	b, err := hex.DecodeString(strings.ReplaceAll(text, " ", ""))
	if err != nil {
		t.Fatal(err)
	}
	return b
}

// wantBytes checks that attributes with routes have bytes, and which ones.
func wantBytes(t *testing.T, x code) {
	t.Helper()
	want := unhex(t, x.text)
	if b, err := attr.Bytes(x.a, x.reach, x.unreach); !bytes.Equal(b, want) || err != api.OK {
		t.Errorf("%s: Bytes = % x, %v, want % x", x.name, b, err, want)
	}
}

// wantError checks that attributes with routes have an error, and no bytes.
func wantError(t *testing.T, name string, x code, want api.Errno) {
	t.Helper()
	if b, err := attr.Bytes(x.a, x.reach, x.unreach); len(b) != 0 || err != want {
		t.Errorf("%s: Bytes = %d bytes, %v, want %v", name, len(b), err, want)
	}
}

// P5.2: attributes and routes have the bytes of the table.
func TestBytes(t *testing.T) {
	for _, x := range codes {
		wantBytes(t, x)
	}
}

// P5.2, R4: it does not matter whether a list without elements is nil.
func TestBytesOfEmptyLists(t *testing.T) {
	empty := api.Attrs{Path: []uint32{}, Clusters: []api.IP{}, Comms: []api.Comm{}}
	wantBytes(t, code{"nothing", empty, []api.NLRI{}, []api.NLRI{}, "80 0f 03 001946"})
	wantBytes(t, code{"withdrawn", empty, []api.NLRI{}, flood, "80 0f 16 001946" + floodText})
	wantBytes(t, code{"announced", empty, flood, []api.NLRI{}, plainText + reachText})
}

// mix returns routes of four kinds: so many with 19 bytes each, with 25, with 27 and with 36.
func mix(floods, segments, autos, prefixes int) []api.NLRI {
	return slices.Concat(
		slices.Repeat(flood, floods),
		slices.Repeat([]api.NLRI{segmentRoute}, segments),
		slices.Repeat([]api.NLRI{autoRoute}, autos),
		slices.Repeat([]api.NLRI{prefixRoute}, prefixes),
	)
}

// P5.2: the length takes two bytes if and only if the value has more than 255.
func TestBytesLengths(t *testing.T) {
	wantBytes(t, code{"announced, 255", api.Attrs{}, mix(3, 0, 7, 0), nil,
		plainText + "80 0e ff 001946 04 00000000 00" + strings.Repeat(floodText, 3) + strings.Repeat(autoText, 7)})
	wantBytes(t, code{"announced, 256", api.Attrs{}, mix(13, 0, 0, 0), nil,
		plainText + "90 0e 0100 001946 04 00000000 00" + strings.Repeat(floodText, 13)})
	wantBytes(t, code{"withdrawn, 255", api.Attrs{}, nil, mix(0, 0, 0, 7),
		"80 0f ff 001946" + strings.Repeat(prefixText, 7)})
	wantBytes(t, code{"withdrawn, 256", api.Attrs{}, nil, mix(12, 1, 0, 0),
		"90 0f 0100 001946" + strings.Repeat(floodText, 12) + segmentText})
	wantBytes(t, code{"announced and withdrawn, long", api.Attrs{}, mix(3000, 0, 0, 0), mix(100, 0, 0, 0),
		plainText + "90 0e deb1 001946 04 00000000 00" + strings.Repeat(floodText, 3000) + "90 0f 076f 001946" + strings.Repeat(floodText, 100)})
}

// P5.2: all attributes together have at most 65,535 bytes.
func TestBytesLong(t *testing.T) {
	// The routes are not all of it: long MP_UNREACH has 7 bytes more, and the attributes of announced routes have 20, or more.
	for _, x := range []struct {
		name           string
		a              api.Attrs
		reach, unreach []api.NLRI
		size           int
	}{
		{"withdrawn", api.Attrs{}, nil, mix(3446, 0, 2, 0), 65535},
		{"withdrawn", api.Attrs{}, nil, mix(3447, 0, 0, 1), 65536},
		{"withdrawn", api.Attrs{}, nil, mix(3449, 0, 0, 0), 65538},
		{"withdrawn", api.Attrs{}, nil, mix(3450, 0, 0, 0), 65557},
		{"withdrawn", api.Attrs{}, nil, mix(6899, 0, 0, 0), 131088},
		{"announced", api.Attrs{}, mix(3444, 1, 2, 0), nil, 65535},
		{"announced", api.Attrs{}, mix(3445, 1, 0, 1), nil, 65536},
		{"announced", api.Attrs{}, mix(3449, 0, 0, 0), nil, 65551},
		{"announced", api.Attrs{}, mix(6899, 0, 0, 0), nil, 131101},
		{"with Comms", api.Attrs{Comms: make([]api.Comm, 64)}, mix(3421, 0, 0, 0), nil, 65535},
		{"with Comms", api.Attrs{Comms: make([]api.Comm, 64)}, mix(3417, 2, 1, 0), nil, 65536},
		{"both", api.Attrs{}, mix(1722, 0, 0, 1), mix(1722, 0, 0, 1), 65535},
		{"both", api.Attrs{}, mix(3300, 0, 1, 0), mix(145, 0, 1, 0), 65536},
		{"both", api.Attrs{}, mix(3000, 0, 0, 0), mix(3000, 0, 0, 0), 114027},
	} {
		b, err := attr.Bytes(x.a, x.reach, x.unreach)
		if x.size > 65535 {
			x.size = 0
			if err != api.ErrLong {
				t.Errorf("%s: Bytes = %v, want %v", x.name, err, api.ErrLong)
			}
		} else if err != api.OK {
			t.Errorf("%s: Bytes = %v", x.name, err)
		}
		if len(b) != x.size {
			t.Errorf("%s: Bytes returns %d bytes, want %d", x.name, len(b), x.size)
		}
	}
}

// P5.2: without announced routes there is no attribute that differs from zero.
func TestBytesWithoutRoutes(t *testing.T) {
	for _, c := range valid {
		var a api.Attrs
		c.set(&a)
		wantError(t, c.name, code{a: a}, api.ErrForm)
		wantError(t, c.name, code{a: a, reach: []api.NLRI{}, unreach: []api.NLRI{}}, api.ErrForm)
		wantError(t, c.name, code{a: a, unreach: flood}, api.ErrForm)
	}
	wantError(t, "all", code{a: fullAttrs(), unreach: flood}, api.ErrForm)
}

// P5.2: routes have to be valid; of those that are not, the first one counts, and announced ones come first.
func TestBytesRoutes(t *testing.T) {
	faults := map[api.Errno]api.NLRI{
		api.ErrType:  {Kind: 6},
		api.ErrForm:  {Kind: 3},
		api.ErrRange: {Kind: 1, Label: 1 << 24},
	}
	for want, x := range faults {
		wantError(t, "announced", code{reach: []api.NLRI{x}}, want)
		wantError(t, "withdrawn", code{unreach: []api.NLRI{x}}, want)
		wantError(t, "withdrawn", code{reach: flood, unreach: []api.NLRI{x}}, want)
		wantError(t, "announced behind others", code{reach: []api.NLRI{floodRoute, autoRoute, x}, unreach: flood}, want)
		wantError(t, "withdrawn behind others", code{reach: flood, unreach: []api.NLRI{floodRoute, autoRoute, x, macRoute}}, want)
		for _, y := range faults {
			wantError(t, "announced before another", code{reach: []api.NLRI{floodRoute, x, y}}, want)
			wantError(t, "withdrawn before another", code{unreach: []api.NLRI{floodRoute, x, y}}, want)
			wantError(t, "announced before withdrawn", code{reach: []api.NLRI{floodRoute, x}, unreach: []api.NLRI{y}}, want)
		}
	}
	wantError(t, "zero", code{reach: make([]api.NLRI, 1)}, api.ErrType)
	wantError(t, "zero", code{unreach: make([]api.NLRI, 1)}, api.ErrType)
}

// P5.2, R1: attributes come before routes, and all that before the size.
func TestBytesOrder(t *testing.T) {
	bad := []api.NLRI{{Kind: 6}}
	many := slices.Repeat(flood, 4000)
	for _, c := range faulty {
		var a api.Attrs
		c.set(&a)
		wantError(t, c.name, code{a: a}, c.want)
		wantError(t, c.name, code{a: a, unreach: bad}, c.want)
		wantError(t, c.name, code{a: a, reach: bad}, c.want)
		wantError(t, c.name, code{a: a, reach: many}, c.want)
		wantError(t, c.name, code{a: a, unreach: many}, c.want)
	}
	wantError(t, "no route to announce", code{a: api.Attrs{Next: 1}, unreach: bad}, api.ErrForm)
	wantError(t, "no route to announce", code{a: api.Attrs{Next: 1}, unreach: many}, api.ErrForm)
	wantError(t, "a bad route among many", code{reach: slices.Concat(many, bad)}, api.ErrType)
	wantError(t, "a bad route among many", code{unreach: slices.Concat(many, bad)}, api.ErrType)
	wantError(t, "a bad route behind many", code{reach: many, unreach: bad}, api.ErrType)
}

// R4: Bytes changes none of its arguments, and keeps neither them nor its result.
func TestBytesSharesNothing(t *testing.T) {
	a, reach, unreach := fullAttrs(), []api.NLRI{floodRoute}, []api.NLRI{autoRoute}
	first, _ := attr.Bytes(a, reach, unreach)
	if !sameAttrs(a, fullAttrs()) || reach[0] != floodRoute || unreach[0] != autoRoute {
		t.Errorf("Bytes changes its arguments: %+v, %+v, %+v", a, reach, unreach)
	}
	want := bytes.Clone(first)
	a.Path[0], a.Clusters[0], a.Comms[0], reach[0], unreach[0] = 99, 99, api.Comm{99}, macRoute, macRoute
	if !bytes.Equal(first, want) {
		t.Errorf("Bytes returns memory of its arguments")
	}
	clear(first)
	if again, _ := attr.Bytes(fullAttrs(), flood, []api.NLRI{autoRoute}); !bytes.Equal(again, want) {
		t.Errorf("Bytes keeps its result: % x", again)
	}
}
