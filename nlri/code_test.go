package nlri_test

import (
	"bytes"
	"encoding/hex"
	"math"
	"slices"
	"strings"
	"testing"

	"leafmesh/api"
	"leafmesh/nlri"
)

// code is a route and its bytes in hexadecimal digits.
type code struct {
	n    api.NLRI
	text string
}

// The identifier in the codes, and a distinguisher of no type.
var (
	someESI = api.ESI{1, 2, 3, 4, 5, 6, 7, 8, 9, 10}
	maxESI  = api.ESI{255, 255, 255, 255, 255, 255, 255, 255, 255, 255}
)

const someRD = 0x1112131415161718

// codes are routes of all kinds: with fields of different bytes, with fields of zero, and with the greatest ones.
var codes = []code{
	{api.NLRI{Kind: 1, RD: someRD, ESI: someESI, Tag: 0x21222324, Label: 0x313233},
		"01 19 1112131415161718 0102030405060708090a 21222324 313233"},
	{api.NLRI{Kind: 1},
		"01 19 0000000000000000 00000000000000000000 00000000 000000"},
	{api.NLRI{Kind: 1, RD: math.MaxUint64, ESI: maxESI, Tag: math.MaxUint32, Label: 16777215},
		"01 19 ffffffffffffffff ffffffffffffffffffff ffffffff ffffff"},

	{api.NLRI{Kind: 2, MAC: 0x020000000007, Label: 100},
		"02 21 0000000000000000 00000000000000000000 00000000 30 020000000007 00 000064"},
	{api.NLRI{Kind: 2, RD: someRD, ESI: someESI, Tag: 0x21222324, MAC: 0x414243444546, Label: 0x313233},
		"02 21 1112131415161718 0102030405060708090a 21222324 30 414243444546 00 313233"},
	{api.NLRI{Kind: 2, RD: someRD, ESI: someESI, Tag: 0x21222324, MAC: 0x414243444546, Label: 0x313233, Label2: 0x515253},
		"02 24 1112131415161718 0102030405060708090a 21222324 30 414243444546 00 313233 515253"},
	{api.NLRI{Kind: 2, RD: someRD, ESI: someESI, Tag: 0x21222324, MAC: 0x414243444546, IP: 0x61626364, HasIP: true, Label: 0x313233},
		"02 25 1112131415161718 0102030405060708090a 21222324 30 414243444546 20 61626364 313233"},
	{api.NLRI{Kind: 2, RD: someRD, ESI: someESI, Tag: 0x21222324, MAC: 0x414243444546, IP: 0x61626364, HasIP: true, Label: 0x313233, Label2: 0x515253},
		"02 28 1112131415161718 0102030405060708090a 21222324 30 414243444546 20 61626364 313233 515253"},
	{api.NLRI{Kind: 2},
		"02 21 0000000000000000 00000000000000000000 00000000 30 000000000000 00 000000"},
	{api.NLRI{Kind: 2, Label2: 1},
		"02 24 0000000000000000 00000000000000000000 00000000 30 000000000000 00 000000 000001"},
	{api.NLRI{Kind: 2, Label2: 0x010000},
		"02 24 0000000000000000 00000000000000000000 00000000 30 000000000000 00 000000 010000"},
	{api.NLRI{Kind: 2, HasIP: true},
		"02 25 0000000000000000 00000000000000000000 00000000 30 000000000000 20 00000000 000000"},
	{api.NLRI{Kind: 2, RD: math.MaxUint64, ESI: maxESI, Tag: math.MaxUint32, MAC: api.Broadcast, IP: math.MaxUint32, HasIP: true, Label: 16777215, Label2: 16777215},
		"02 28 ffffffffffffffff ffffffffffffffffffff ffffffff 30 ffffffffffff 20 ffffffff ffffff ffffff"},

	{api.NLRI{Kind: 3, RD: 0x0001_0aff0001_0005, IP: 0x0aff0001, HasIP: true},
		"03 11 00010aff00010005 00000000 20 0aff0001"},
	{api.NLRI{Kind: 3, RD: someRD, Tag: 0x21222324, IP: 0x61626364, HasIP: true},
		"03 11 1112131415161718 21222324 20 61626364"},
	{api.NLRI{Kind: 3, HasIP: true},
		"03 11 0000000000000000 00000000 20 00000000"},
	{api.NLRI{Kind: 3, RD: math.MaxUint64, Tag: math.MaxUint32, IP: math.MaxUint32, HasIP: true},
		"03 11 ffffffffffffffff ffffffff 20 ffffffff"},

	{api.NLRI{Kind: 4, RD: someRD, ESI: someESI, IP: 0x61626364, HasIP: true},
		"04 17 1112131415161718 0102030405060708090a 20 61626364"},
	{api.NLRI{Kind: 4, HasIP: true},
		"04 17 0000000000000000 00000000000000000000 20 00000000"},
	{api.NLRI{Kind: 4, RD: math.MaxUint64, ESI: maxESI, IP: math.MaxUint32, HasIP: true},
		"04 17 ffffffffffffffff ffffffffffffffffffff 20 ffffffff"},

	{api.NLRI{Kind: 5, RD: someRD, ESI: someESI, Tag: 0x21222324, Prefix: api.Prefix{IP: 0x61626300, Len: 24}, Gateway: 0x71727374, Label: 0x313233},
		"05 22 1112131415161718 0102030405060708090a 21222324 18 61626300 71727374 313233"},
	{api.NLRI{Kind: 5},
		"05 22 0000000000000000 00000000000000000000 00000000 00 00000000 00000000 000000"},
	{api.NLRI{Kind: 5, Prefix: api.Prefix{Len: 32}},
		"05 22 0000000000000000 00000000000000000000 00000000 20 00000000 00000000 000000"},
	{api.NLRI{Kind: 5, RD: math.MaxUint64, ESI: maxESI, Tag: math.MaxUint32, Prefix: api.Prefix{IP: math.MaxUint32, Len: 32}, Gateway: math.MaxUint32, Label: 16777215},
		"05 22 ffffffffffffffff ffffffffffffffffffff ffffffff 20 ffffffff ffffffff ffffff"},
}

// unhex returns the bytes that hexadecimal digits stand for; spaces between them do not matter.
func unhex(t *testing.T, text string) []byte {
	t.Helper()
	b, err := hex.DecodeString(strings.ReplaceAll(text, " ", ""))
	if err != nil {
		t.Fatal(err)
	}
	return b
}

// wantRead checks that bytes are those of routes, and no others.
func wantRead(t *testing.T, b []byte, want ...api.NLRI) {
	t.Helper()
	list, fault := nlri.Read(b)
	if !slices.Equal(list, want) || fault != (api.Fault{}) {
		t.Errorf("Read(% x) = %+v, %v, want %+v", b, list, fault, want)
	}
}

// wantFault checks that bytes have a fault, and no routes.
func wantFault(t *testing.T, b []byte, err api.Errno, at int) {
	t.Helper()
	list, fault := nlri.Read(b)
	if len(list) != 0 || fault != (api.Fault{Err: err, At: at}) {
		t.Errorf("Read(% x) = %d routes, %v, want %v at %d", b, len(list), fault, err, at)
	}
}

// wantFaultBehind checks that bytes have a fault at their start, also behind other routes, whose number and size do not matter.
func wantFaultBehind(t *testing.T, b []byte, err api.Errno) {
	t.Helper()
	wantFault(t, b, err, 0)
	before := unhex(t, codes[0].text)
	wantFault(t, append(slices.Clone(before), b...), err, len(before))
	before = append(unhex(t, codes[7].text), before...)
	wantFault(t, append(slices.Clone(before), b...), err, len(before))
}

// P4.1, P4.2: each route has its bytes, and these are read as the route.
func TestCodes(t *testing.T) {
	for _, c := range codes {
		want := unhex(t, c.text)
		if b, err := nlri.Bytes(c.n); !bytes.Equal(b, want) || err != api.OK {
			t.Errorf("Bytes(%+v) = % x, %v, want % x", c.n, b, err, want)
		}
		wantRead(t, want, c.n)
	}
}

// P4.2: routes stand one after the other, the same one also twice.
func TestReadMany(t *testing.T) {
	wantRead(t, nil)
	wantRead(t, []byte{})
	var all []byte
	var want []api.NLRI
	for _, c := range slices.Concat(codes, codes) {
		all, want = append(all, unhex(t, c.text)...), append(want, c.n)
		wantRead(t, all, want...)
	}
}

// P4.2: bytes that end within a route are too short, whatever the rest of it is.
func TestReadShort(t *testing.T) {
	for _, c := range codes {
		b := unhex(t, c.text)
		for length := 1; length < len(b); length++ {
			wantFaultBehind(t, b[:length], api.ErrShort)
		}
	}
	for kind := range 256 {
		wantFaultBehind(t, []byte{byte(kind)}, api.ErrShort)
		wantFaultBehind(t, []byte{byte(kind), 1}, api.ErrShort)
		wantFaultBehind(t, append([]byte{byte(kind), 255}, make([]byte, 254)...), api.ErrShort)
	}
}

// P4.2: a complete route is of one of the five kinds.
func TestReadKinds(t *testing.T) {
	for kind := range 256 {
		for _, c := range codes {
			if b := unhex(t, c.text); kind == 0 || kind > 5 {
				b[0] = byte(kind)
				wantFault(t, b, api.ErrType, 0)
			}
		}
		want := api.ErrType
		if kind >= 1 && kind <= 5 {
			want = api.ErrForm
		}
		wantFaultBehind(t, []byte{byte(kind), 0}, want)
		wantFaultBehind(t, append([]byte{byte(kind), 255}, make([]byte, 255)...), want)
	}
}

// P4.2: a value has a size that its kind allows, even if all of it is zero or is what a route begins with.
func TestReadSizes(t *testing.T) {
	for _, c := range codes {
		value := unhex(t, c.text)[2:]
		for size := range 256 {
			if size == len(value) || c.n.Kind == 2 && (size == len(value)+3 || size == len(value)-3) {
				continue
			}
			for _, filler := range []byte{0, 1, 255} {
				b := append(slices.Clone(value), bytes.Repeat([]byte{filler}, 256)...)[:size]
				wantFault(t, append([]byte{byte(c.n.Kind), byte(size)}, b...), api.ErrForm, 0)
			}
		}
	}
}

// P4.2: the second label is there if and only if it is not zero.
func TestReadSecondLabel(t *testing.T) {
	for _, ip := range []string{"00", "20 61626364"} {
		value := unhex(t, "1112131415161718 0102030405060708090a 21222324 30 414243444546 "+ip+" 313233")
		for _, x := range []struct {
			more string
			want api.Errno
		}{{"", api.OK}, {"00", api.ErrForm}, {"01", api.ErrForm}, {"0000", api.ErrForm}, {"0001", api.ErrForm}, {"000000", api.ErrForm}, {"000001", api.OK}, {"800000", api.OK}, {"00000100", api.ErrForm}, {"000000000001", api.ErrForm}, {"000001000001", api.ErrForm}} {
			v := append(slices.Clone(value), unhex(t, x.more)...)
			b := append([]byte{2, byte(len(v))}, v...)
			if _, fault := nlri.Read(b); fault != (api.Fault{Err: x.want}) {
				t.Errorf("Read(% x): %v, want %v", b, fault, x.want)
			}
		}
	}
}

// P4.2: the bytes that tell how many bits an address has have one value, or one of two.
func TestReadConstants(t *testing.T) {
	for _, c := range codes {
		// The offsets of these bytes are counted from the first byte of the route.
		var at []int
		switch c.n.Kind {
		case 2:
			at = []int{24, 31}
		case 3:
			at = []int{14}
		case 4:
			at = []int{20}
		}
		for _, i := range at {
			for value := range 256 {
				b := unhex(t, c.text)
				if b[i] != byte(value) {
					b[i] = byte(value)
					wantFault(t, b, api.ErrForm, 0)
				}
			}
		}
	}
}

// P4.2: a prefix has a length of at most 32 and no bits behind it.
func TestReadPrefixes(t *testing.T) {
	prefix := func(ip api.IP, length int) []byte {
		b := unhex(t, "05 22 1112131415161718 0102030405060708090a 21222324 00 00000000 71727374 313233")
		copy(b[24:], []byte{byte(length), byte(ip >> 24), byte(ip >> 16), byte(ip >> 8), byte(ip)})
		return b
	}
	for length := range 256 {
		if length > 32 {
			wantFaultBehind(t, prefix(0, length), api.ErrForm)
			wantFaultBehind(t, prefix(math.MaxUint32, length), api.ErrForm)
			continue
		}
		ip := api.IP(math.MaxUint32 << (32 - length))
		wantRead(t, prefix(ip, length), api.NLRI{Kind: 5, RD: someRD, ESI: someESI, Tag: 0x21222324, Prefix: api.Prefix{IP: ip, Len: length}, Gateway: 0x71727374, Label: 0x313233})
		if length < 32 {
			wantFaultBehind(t, prefix(ip|1, length), api.ErrForm)
			wantFaultBehind(t, prefix(1<<(31-length), length), api.ErrForm)
		}
	}
}

// P4.2, R1: of the errors of one route, the first one counts: it is short, then of no kind, then not of the right form.
func TestReadOrder(t *testing.T) {
	wantFaultBehind(t, []byte{3, 0x11, 0}, api.ErrShort)
	wantFaultBehind(t, []byte{6, 0}, api.ErrType)
	wantFaultBehind(t, []byte{3, 0}, api.ErrForm)
	wantFaultBehind(t, []byte{6, 1}, api.ErrShort)
	wantFaultBehind(t, []byte{3, 1}, api.ErrShort)
	wantFaultBehind(t, []byte{6, 1, 0}, api.ErrType)
}

// P4.2: of the faults of several routes, the first one counts.
func TestReadFirstFault(t *testing.T) {
	route := unhex(t, codes[13].text)
	faults := []struct {
		b    []byte
		want api.Errno
	}{{[]byte{6, 0}, api.ErrType}, {[]byte{3, 0}, api.ErrForm}, {[]byte{0, 2, 1, 19}, api.ErrType}}
	for _, x := range faults {
		for _, y := range faults {
			wantFault(t, slices.Concat(x.b, y.b), x.want, 0)
			wantFault(t, slices.Concat(route, x.b, y.b, route), x.want, 19)
			wantFault(t, slices.Concat(route, x.b, route, y.b, []byte{1}), x.want, 19)
		}
		wantFault(t, slices.Concat(route, route, x.b, []byte{3, 0x11}), x.want, 38)
	}
}

// P4.2: as many routes as a speaker may have are read, and what follows them is not looked at.
func TestReadFull(t *testing.T) {
	route := unhex(t, codes[14].text)
	full := bytes.Repeat(route, 4096)
	wantRead(t, full, slices.Repeat([]api.NLRI{codes[14].n}, 4096)...)
	for _, more := range [][]byte{route, {3}, {3, 0x11, 0}, {6, 0}, {3, 0}, {6}, bytes.Repeat(route, 3)} {
		wantFault(t, slices.Concat(full, more), api.ErrFull, 4096*19)
	}
	last := full[:4095*19]
	for _, x := range []struct {
		b    []byte
		want api.Errno
	}{{[]byte{3}, api.ErrShort}, {[]byte{6, 0}, api.ErrType}, {[]byte{3, 0}, api.ErrForm}} {
		wantFault(t, slices.Concat(last, x.b), x.want, 4095*19)
	}
	wantFault(t, slices.Concat(last, []byte{6, 0}, full), api.ErrType, 4095*19)
	wantFault(t, slices.Concat([]byte{6, 0}, full, full), api.ErrType, 0)
}

// R4: bytes that are read are not changed, and neither they nor the results of an earlier call are seen in a later one.
func TestSharesNothing(t *testing.T) {
	for _, c := range codes {
		want := unhex(t, c.text)
		memory := append(unhex(t, c.text), 7, 7, 7, 7)
		b := memory[:len(want)]
		first, _ := nlri.Read(b)
		if !bytes.Equal(memory, append(slices.Clone(want), 7, 7, 7, 7)) {
			t.Errorf("Read changes its argument to % x", memory)
		}
		second, _ := nlri.Read(b)
		clear(memory)
		first[0] = api.NLRI{}
		if len(second) != 1 || second[0] != c.n {
			t.Errorf("Read keeps memory: %+v", second)
		}
		out, _ := nlri.Bytes(c.n)
		again, _ := nlri.Bytes(c.n)
		clear(out)
		if !bytes.Equal(again, want) {
			t.Errorf("Bytes shares memory: % x", again)
		}
	}
}
