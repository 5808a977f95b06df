package msg_test

import (
	"bytes"
	"encoding/hex"
	"math"
	"slices"
	"strings"
	"testing"

	"leafmesh/api"
	"leafmesh/attr"
	"leafmesh/msg"
)

// The routes of the tests; their bytes are those of layer 4, with sizes of 19, 25, 27 and 36 bytes.
var (
	floodRoute   = api.NLRI{Kind: 3, RD: 0x0001_0aff0001_0005, IP: 0x0aff0001, HasIP: true}
	segmentRoute = api.NLRI{Kind: 4, RD: 7, ESI: api.ESI{1, 9: 2}, IP: 0x0aff0001, HasIP: true}
	autoRoute    = api.NLRI{Kind: 1, RD: 7, ESI: api.ESI{1, 9: 2}, Tag: 3, Label: 4}
	prefixRoute  = api.NLRI{Kind: 5, RD: 7, Prefix: api.Prefix{IP: 0x0a000000, Len: 8}, Gateway: 1, Label: 9}

	flood = []api.NLRI{floodRoute}
	auto  = []api.NLRI{autoRoute}
)

// The bytes of two of the routes, and those with which each message begins, in hexadecimal digits.
const (
	floodText  = "03 11 00010aff00010005 00000000 20 0aff0001"
	autoText   = "01 19 0000000000000007 01000000000000000002 00000003 000004"
	markerText = "ffffffffffffffff ffffffffffffffff"
)

// code is a message, and its bytes behind the marker.
type code struct {
	name string
	m    api.Msg
	text string
}

// codes are messages of all kinds.
var codes = []code{
	{"alive", api.Msg{Kind: 4}, "0013 04"},
	{"refresh", api.Msg{Kind: 5}, "0017 05 00190046"},

	{"notice", api.Msg{Kind: 3, Code: 6, Sub: 4}, "0015 03 06 04"},
	{"notice of zeros", api.Msg{Kind: 3}, "0015 03 00 00"},
	{"the greatest code", api.Msg{Kind: 3, Code: 255}, "0015 03 ff 00"},
	{"the greatest subcode", api.Msg{Kind: 3, Sub: 255}, "0015 03 00 ff"},

	{"open", openMsg(api.Open{AS: 65000, Hold: 90, ID: 0x0aff0001}),
		"002d 01 04 fde8 005a 0aff0001 10 02 0e 0104 00190046 0200 4104 0000fde8"},
	{"open of zeros", openMsg(api.Open{}),
		"002d 01 04 0000 0000 00000000 10 02 0e 0104 00190046 0200 4104 00000000"},
	{"the greatest AS number of two bytes", openMsg(api.Open{AS: 65535, Hold: 3}),
		"002d 01 04 ffff 0003 00000000 10 02 0e 0104 00190046 0200 4104 0000ffff"},
	{"the least AS number of four bytes", openMsg(api.Open{AS: 65536, Hold: 256}),
		"002d 01 04 5ba0 0100 00000000 10 02 0e 0104 00190046 0200 4104 00010000"},
	{"the AS number that stands for others", openMsg(api.Open{AS: 23456}),
		"002d 01 04 5ba0 0000 00000000 10 02 0e 0104 00190046 0200 4104 00005ba0"},
	{"the greatest open", openMsg(api.Open{AS: math.MaxUint32, Hold: 65535, ID: math.MaxUint32, Restart: 4095, Restarted: true}),
		"0035 01 04 5ba0 ffff ffffffff 18 02 16 0104 00190046 0200 4006 8fff 00194680 4104 ffffffff"},
	{"restart", openMsg(api.Open{AS: 1, Hold: 9, ID: 2, Restart: 0x0102}),
		"0035 01 04 0001 0009 00000002 18 02 16 0104 00190046 0200 4006 0102 00194680 4104 00000001"},
	{"restart of one second", openMsg(api.Open{Restart: 1}),
		"0035 01 04 0000 0000 00000000 18 02 16 0104 00190046 0200 4006 0001 00194680 4104 00000000"},
	{"the longest restart", openMsg(api.Open{Restart: 4095}),
		"0035 01 04 0000 0000 00000000 18 02 16 0104 00190046 0200 4006 0fff 00194680 4104 00000000"},
	{"restarted", openMsg(api.Open{Restarted: true}),
		"0035 01 04 0000 0000 00000000 18 02 16 0104 00190046 0200 4006 8000 00194680 4104 00000000"},
	{"restart and restarted", openMsg(api.Open{Restart: 120, Restarted: true}),
		"0035 01 04 0000 0000 00000000 18 02 16 0104 00190046 0200 4006 8078 00194680 4104 00000000"},

	{"End of RIB", api.Msg{Kind: 2}, "001d 02 0000 0006 80 0f 03 001946"},
	{"withdrawn", api.Msg{Kind: 2, Unreach: flood}, "0030 02 0000 0019 80 0f 16 001946" + floodText},
	{"announced", api.Msg{Kind: 2, Reach: flood},
		"003d 02 0000 0026 40 01 01 00  40 02 00  80 0e 1c 001946 04 00000000 00" + floodText},
	{"announced and withdrawn", api.Msg{Kind: 2, A: api.Attrs{Origin: 2, Next: 9, HasPref: true, Pref: 100}, Reach: flood, Unreach: auto},
		"0065 02 0000 004e 40 01 01 02  40 02 00  40 05 04 00000064  80 0e 1c 001946 04 00000009 00" + floodText + "80 0f 1e 001946" + autoText},
}

func openMsg(o api.Open) api.Msg {
	return api.Msg{Kind: api.MsgOpen, Open: o}
}

// fullAttrs returns attributes whose fields all differ from zero.
func fullAttrs() api.Attrs {
	return api.Attrs{
		Origin: 2, Path: []uint32{1, 2}, Next: 3, HasMed: true, Med: 4, HasPref: true, Pref: 5, HasOriginator: true, Originator: 6,
		Clusters: []api.IP{7, 8}, Comms: []api.Comm{{9}, {10}}, Tunnel: api.Tunnel{Kind: 3, Label: 11, Root: 12, Group: 13},
	}
}

// unhex returns the bytes that hexadecimal digits stand for; spaces between them do not matter.
func unhex(t *testing.T, text string) []byte {
	t.Helper()
	b, err := hex.DecodeString(strings.ReplaceAll(text, " ", ""))
	if err != nil {
		t.Fatal(err)
	}
	return b
}

// bytesOf returns all bytes of a code.
func (c code) bytesOf(t *testing.T) []byte {
	t.Helper()
	return unhex(t, markerText+c.text)
}

// wantBytes checks that Check accepts a message, and which bytes it has.
func wantBytes(t *testing.T, name string, m api.Msg, want []byte) {
	t.Helper()
	if err := msg.Check(m); err != api.OK {
		t.Errorf("%s: Check = %v", name, err)
	}
	if b, err := msg.Bytes(m); !bytes.Equal(b, want) || err != api.OK {
		t.Errorf("%s: Bytes = % x, %v, want % x", name, b, err, want)
	}
}

// wantError checks that a message has an error, and no bytes.
func wantError(t *testing.T, name string, m api.Msg, want api.Errno) {
	t.Helper()
	if err := msg.Check(m); err != want {
		t.Errorf("%s: Check = %v, want %v", name, err, want)
	}
	if b, err := msg.Bytes(m); len(b) != 0 || err != want {
		t.Errorf("%s: Bytes = %d bytes, %v, want %v", name, len(b), err, want)
	}
}

// P6.1: messages have the bytes of the table.
func TestBytes(t *testing.T) {
	for _, c := range codes {
		wantBytes(t, c.name, c.m, c.bytesOf(t))
	}
}

// P6.1: the attributes of an UPDATE message are those of layer 5.
func TestBytesOfAttributes(t *testing.T) {
	for _, m := range []api.Msg{
		{Kind: 2, A: fullAttrs(), Reach: flood, Unreach: auto},
		{Kind: 2, A: api.Attrs{Comms: make([]api.Comm, 64)}, Reach: slices.Repeat(auto, 20)},
		{Kind: 2, Unreach: slices.Repeat(flood, 100)},
	} {
		list, _ := attr.Bytes(m.A, m.Reach, m.Unreach)
		body := append([]byte{0, 0, byte(len(list) >> 8), byte(len(list))}, list...)
		wantBytes(t, "attributes", m, message(2, body))
	}
}

// P6.1, R4: it does not matter whether a list without elements is nil.
func TestBytesOfEmptyLists(t *testing.T) {
	for _, c := range codes {
		wantBytes(t, c.name, withEmptyLists(c.m), c.bytesOf(t))
	}
}

// withEmptyLists returns a message whose lists without elements are not nil.
func withEmptyLists(m api.Msg) api.Msg {
	if len(m.Reach) == 0 {
		m.Reach = []api.NLRI{}
	}
	if len(m.Unreach) == 0 {
		m.Unreach = []api.NLRI{}
	}
	if attr.Zero(m.A) {
		m.A = api.Attrs{Path: []uint32{}, Clusters: []api.IP{}, Comms: make([]api.Comm, 0, 3)}
	}
	return m
}

// P6.1, R5: a message is of one of the five kinds; this is checked first.
func TestKinds(t *testing.T) {
	for _, kind := range []int{0, -1, 6, 7, 255, 256, 256 + 1, 256 + 4, 1 << 32, 1<<32 + 4, math.MinInt, math.MaxInt} {
		for _, c := range codes {
			m := c.m
			m.Kind = kind
			wantError(t, c.name, m, api.ErrType)
		}
		wantError(t, "all errors", api.Msg{Kind: kind, Open: api.Open{Hold: 1}, Code: -1, A: api.Attrs{Origin: 3}, Unreach: make([]api.NLRI, 1)}, api.ErrType)
	}
}

// field gives a field of a message a value other than zero.
type field struct {
	name string
	set  func(m *api.Msg)
	kind int // the kind that uses the field
}

var fields = []field{
	{"AS", func(m *api.Msg) { m.Open.AS = 1 }, 1},
	{"Hold", func(m *api.Msg) { m.Open.Hold = 3 }, 1},
	{"a bad Hold", func(m *api.Msg) { m.Open.Hold = -1 }, 1},
	{"ID", func(m *api.Msg) { m.Open.ID = 1 }, 1},
	{"Restart", func(m *api.Msg) { m.Open.Restart = 1 }, 1},
	{"a bad Restart", func(m *api.Msg) { m.Open.Restart = -1 }, 1},
	{"Restarted", func(m *api.Msg) { m.Open.Restarted = true }, 1},
	{"Code", func(m *api.Msg) { m.Code = 1 }, 3},
	{"a bad Code", func(m *api.Msg) { m.Code = 256 }, 3},
	{"Sub", func(m *api.Msg) { m.Sub = 1 }, 3},
	{"a bad Sub", func(m *api.Msg) { m.Sub = -1 }, 3},
	{"Origin", func(m *api.Msg) { m.A.Origin = 1 }, 2},
	{"a bad Origin", func(m *api.Msg) { m.A.Origin = 3 }, 2},
	{"Path", func(m *api.Msg) { m.A.Path = []uint32{0} }, 2},
	{"Next", func(m *api.Msg) { m.A.Next = 1 }, 2},
	{"HasMed", func(m *api.Msg) { m.A.HasMed = true }, 2},
	{"a bad Med", func(m *api.Msg) { m.A.Med = 1 }, 2},
	{"HasPref", func(m *api.Msg) { m.A.HasPref = true }, 2},
	{"a bad Pref", func(m *api.Msg) { m.A.Pref = 1 }, 2},
	{"HasOriginator", func(m *api.Msg) { m.A.HasOriginator = true }, 2},
	{"a bad Originator", func(m *api.Msg) { m.A.Originator = 1 }, 2},
	{"Clusters", func(m *api.Msg) { m.A.Clusters = []api.IP{0} }, 2},
	{"Comms", func(m *api.Msg) { m.A.Comms = make([]api.Comm, 65) }, 2},
	{"Tunnel", func(m *api.Msg) { m.A.Tunnel.Kind = 6 }, 2},
	{"a bad Tunnel", func(m *api.Msg) { m.A.Tunnel.Root = 1 }, 2},
	{"Reach", func(m *api.Msg) { m.Reach = flood }, 2},
	{"a bad Reach", func(m *api.Msg) { m.Reach = make([]api.NLRI, 1) }, 2},
	{"Unreach", func(m *api.Msg) { m.Unreach = flood }, 2},
	{"a bad Unreach", func(m *api.Msg) { m.Unreach = make([]api.NLRI, 1) }, 2},
}

// P6.1: a field that the kind does not use is zero; this counts more than the values of the other fields.
func TestUnusedFields(t *testing.T) {
	for kind := 1; kind <= 5; kind++ {
		for _, f := range fields {
			if f.kind == kind {
				continue
			}
			m := api.Msg{Kind: kind}
			f.set(&m)
			wantError(t, f.name, m, api.ErrForm)
			for _, g := range fields {
				bad := m
				g.set(&bad)
				wantError(t, f.name+", "+g.name, bad, api.ErrForm)
			}
		}
	}
}

// P6.1: a field of an OPEN message has a value within its limits; the others may have any.
func TestOpenLimits(t *testing.T) {
	for _, hold := range []int{1, 2, -1, -2, -3, 65536, 65537, 65536 + 90, 1 << 32, 1<<32 + 3, math.MinInt, math.MaxInt} {
		wantError(t, "Hold", openMsg(api.Open{AS: 1, Hold: hold}), api.ErrRange)
		wantError(t, "Hold and Restart", openMsg(api.Open{Hold: hold, Restart: 4095, Restarted: true}), api.ErrRange)
		wantError(t, "Hold and a bad Restart", openMsg(api.Open{Hold: hold, Restart: -1}), api.ErrRange)
	}
	for _, restart := range []int{-1, -4096, 4096, 4097, 0x8000, 0x8001, 65535, 65536, 1 << 32, 1<<32 + 1, math.MinInt, math.MaxInt} {
		wantError(t, "Restart", openMsg(api.Open{AS: 1, Hold: 90, Restart: restart}), api.ErrRange)
		wantError(t, "Restart and Restarted", openMsg(api.Open{Restart: restart, Restarted: true}), api.ErrRange)
	}
	for _, hold := range []int{0, 3, 4, 255, 256, 65534, 65535} {
		for _, restart := range []int{0, 1, 255, 256, 4094, 4095} {
			m := openMsg(api.Open{AS: 70000, Hold: hold, ID: 5, Restart: restart})
			if err := msg.Check(m); err != api.OK {
				t.Errorf("Check(%+v) = %v", m, err)
			}
		}
	}
}

// P6.1: the numbers of a NOTIFICATION message are from 0 to 255.
func TestNoticeLimits(t *testing.T) {
	for _, n := range []int{-1, -256, 256, 257, 512, 1 << 32, 1<<32 + 1, math.MinInt, math.MaxInt} {
		wantError(t, "Code", api.Msg{Kind: 3, Code: n}, api.ErrRange)
		wantError(t, "Sub", api.Msg{Kind: 3, Sub: n}, api.ErrRange)
		wantError(t, "both", api.Msg{Kind: 3, Code: n, Sub: n}, api.ErrRange)
	}
	for n := range 256 {
		wantBytes(t, "notice", api.Msg{Kind: 3, Code: n, Sub: 255 - n}, message(3, []byte{byte(n), byte(255 - n)}))
	}
}

// P6.1: an UPDATE message has the error of its attributes and routes.
func TestUpdateErrors(t *testing.T) {
	for _, x := range []struct {
		name string
		m    api.Msg
		want api.Errno
	}{
		{"Origin", api.Msg{A: api.Attrs{Origin: 3}, Reach: flood}, api.ErrRange},
		{"Path", api.Msg{A: api.Attrs{Path: make([]uint32, 33)}, Reach: flood}, api.ErrLong},
		{"Med", api.Msg{A: api.Attrs{Med: 1}, Reach: flood}, api.ErrForm},
		{"Tunnel", api.Msg{A: api.Attrs{Tunnel: api.Tunnel{Kind: 5}}, Reach: flood}, api.ErrType},
		{"attributes without routes", api.Msg{A: fullAttrs()}, api.ErrForm},
		{"attributes without announced routes", api.Msg{A: api.Attrs{Next: 1}, Unreach: flood}, api.ErrForm},
		{"announced of no kind", api.Msg{Reach: make([]api.NLRI, 1)}, api.ErrType},
		{"withdrawn of no kind", api.Msg{Reach: flood, Unreach: make([]api.NLRI, 1)}, api.ErrType},
		{"announced without an address", api.Msg{Reach: []api.NLRI{{Kind: 3}}, Unreach: flood}, api.ErrForm},
		{"withdrawn with a great label", api.Msg{Unreach: []api.NLRI{{Kind: 1, Label: 1 << 24}}}, api.ErrRange},
		{"attributes before the size", api.Msg{A: api.Attrs{Origin: 3}, Reach: slices.Repeat(flood, 4000)}, api.ErrRange},
		{"routes before the size", api.Msg{Reach: slices.Repeat(flood, 300), Unreach: make([]api.NLRI, 1)}, api.ErrType},
	} {
		x.m.Kind = 2
		wantError(t, x.name, x.m, x.want)
	}
}

// mix returns routes of four kinds: so many with 19 bytes each, with 25, with 27 and with 36.
func mix(floods, segments, autos, prefixes int) []api.NLRI {
	return slices.Concat(
		slices.Repeat(flood, floods),
		slices.Repeat([]api.NLRI{segmentRoute}, segments),
		slices.Repeat(auto, autos),
		slices.Repeat([]api.NLRI{prefixRoute}, prefixes),
	)
}

// P6.1: a message has at most 4,096 bytes, its head among them.
func TestUpdateSizes(t *testing.T) {
	// The routes are not all of it: withdrawn ones have 30 bytes before them, and announced ones 43, and what other attributes need.
	for _, x := range []struct {
		name string
		m    api.Msg
		size int
	}{
		{"withdrawn", api.Msg{Unreach: mix(214, 0, 0, 0)}, 4096},
		{"withdrawn", api.Msg{Unreach: mix(208, 0, 1, 2)}, 4081},
		{"withdrawn", api.Msg{Unreach: mix(205, 1, 0, 4)}, 4094},
		{"withdrawn", api.Msg{Unreach: mix(206, 0, 1, 3)}, 4079},
		{"withdrawn", api.Msg{Unreach: mix(215, 0, 0, 0)}, 4115},
		{"announced", api.Msg{Reach: mix(213, 0, 0, 0)}, 4090},
		{"announced", api.Msg{Reach: mix(212, 1, 0, 0)}, 4096},
		{"announced", api.Msg{Reach: mix(214, 0, 0, 0)}, 4109},
		{"announced", api.Msg{Reach: mix(3400, 0, 0, 0)}, 64643},
		{"announced", api.Msg{Reach: mix(3500, 0, 0, 0)}, 66543},
		{"with Comms", api.Msg{A: api.Attrs{Comms: make([]api.Comm, 64)}, Reach: mix(186, 0, 0, 0)}, 4093},
		{"with Comms", api.Msg{A: api.Attrs{Comms: make([]api.Comm, 64)}, Reach: mix(187, 0, 0, 0)}, 4112},
		{"both", api.Msg{Reach: mix(213, 0, 0, 0), Unreach: mix(1, 0, 0, 0)}, 4115},
	} {
		x.m.Kind = 2
		if x.size > 4096 {
			wantError(t, x.name, x.m, api.ErrLong)
			continue
		}
		if b, err := msg.Bytes(x.m); len(b) != x.size || err != api.OK {
			t.Errorf("%s: Bytes returns %d bytes, %v, want %d", x.name, len(b), err, x.size)
		}
	}
}

// P6.1: just below the greatest size messages are encoded, just above it they are too long.
func TestUpdateSizesAround(t *testing.T) {
	seen := map[int]bool{}
	for floods := 195; floods < 217; floods++ {
		for segments := range 4 {
			for autos := range 4 {
				m := api.Msg{Kind: 2, Unreach: mix(floods, segments, autos, 0)}
				size := 30 + 19*floods + 25*segments + 27*autos
				seen[size] = true
				if size > 4096 {
					wantError(t, "around", m, api.ErrLong)
					continue
				}
				if b, err := msg.Bytes(m); len(b) != size || err != api.OK {
					t.Errorf("Bytes returns %d bytes, %v, want %d", len(b), err, size)
				}
			}
		}
	}
	for _, size := range []int{4095, 4096, 4097} {
		if !seen[size] {
			t.Errorf("the test has no message of %d bytes", size)
		}
	}
}

// P6.1: the End of RIB is an UPDATE message in which all else is zero.
func TestEnd(t *testing.T) {
	for _, m := range []api.Msg{{Kind: 2}, withEmptyLists(api.Msg{Kind: 2})} {
		if !msg.End(m) {
			t.Errorf("End(%+v) is false", m)
		}
	}
	for kind := -1; kind < 8; kind++ {
		if msg.End(api.Msg{Kind: kind}) != (kind == 2) {
			t.Errorf("End of the kind %d: %v", kind, kind != 2)
		}
		for _, f := range fields {
			m := api.Msg{Kind: kind}
			f.set(&m)
			if msg.End(m) {
				t.Errorf("End of the kind %d with %s is true", kind, f.name)
			}
		}
	}
	for _, c := range codes {
		if msg.End(c.m) != (c.name == "End of RIB") {
			t.Errorf("%s: End is wrong", c.name)
		}
	}
}

// R4: a message that is encoded is not changed, and neither it nor the result of an earlier call is seen in a later one.
func TestBytesSharesNothing(t *testing.T) {
	m := api.Msg{Kind: 2, A: fullAttrs(), Reach: slices.Clone(flood), Unreach: slices.Clone(auto)}
	first, _ := msg.Bytes(m)
	if !same(m, api.Msg{Kind: 2, A: fullAttrs(), Reach: flood, Unreach: auto}) {
		t.Errorf("Bytes changes its argument: %+v", m)
	}
	want := bytes.Clone(first)
	m.A.Path[0], m.A.Clusters[0], m.A.Comms[0], m.Reach[0], m.Unreach[0] = 99, 99, api.Comm{99}, prefixRoute, prefixRoute
	if !bytes.Equal(first, want) {
		t.Error("Bytes returns memory of its argument")
	}
	clear(first)
	wantBytes(t, "again", api.Msg{Kind: 2, A: fullAttrs(), Reach: flood, Unreach: auto}, want)
	for _, c := range codes {
		b, _ := msg.Bytes(c.m)
		clear(b)
		wantBytes(t, c.name, c.m, c.bytesOf(t))
	}
}
