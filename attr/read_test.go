package attr_test

import (
	"bytes"
	"slices"
	"strings"
	"testing"

	"leafmesh/api"
	"leafmesh/attr"
)

// known are the codes of the table with their flags, and a value that is read without a fault.
var known = []struct {
	code, flags byte
	value       string
}{
	{1, 0x40, "01"},
	{2, 0x40, "02 01 00000009"},
	{4, 0x80, "00000001"},
	{5, 0x40, "00000002"},
	{9, 0x80, "00000003"},
	{10, 0x80, "00000004 00000005"},
	{14, 0x80, "001946 04 0aff0001 00" + floodText},
	{15, 0x80, "001946" + autoText},
	{16, 0xc0, "0000000000000006 0000000000000007"},
	{22, 0xc0, "00 06 000001 0aff0001"},
}

// isKnown reports whether the table has a code.
func isKnown(code byte) bool {
	for _, k := range known {
		if k.code == code {
			return true
		}
	}
	return false
}

// sameAttrs reports whether attributes are equal; it does not matter whether a list without elements is nil.
func sameAttrs(a, b api.Attrs) bool {
	return a.Origin == b.Origin && slices.Equal(a.Path, b.Path) && a.Next == b.Next &&
		a.HasMed == b.HasMed && a.Med == b.Med && a.HasPref == b.HasPref && a.Pref == b.Pref &&
		a.HasOriginator == b.HasOriginator && a.Originator == b.Originator &&
		slices.Equal(a.Clusters, b.Clusters) && slices.Equal(a.Comms, b.Comms) && a.Tunnel == b.Tunnel
}

// piece returns an attribute, with a length of two bytes if the bit 0x10 of its flags is set.
func piece(flags, code byte, value []byte) []byte {
	head := []byte{flags, code, byte(len(value))}
	if flags&0x10 != 0 {
		head = []byte{flags, code, byte(len(value) >> 8), byte(len(value))}
	}
	return append(head, value...)
}

// wantRead checks that bytes have no fault, and what they say.
func wantRead(t *testing.T, name string, b []byte, want code) {
	t.Helper()
	a, reach, unreach, fault := attr.Read(b)
	if !sameAttrs(a, want.a) || !slices.Equal(reach, want.reach) || !slices.Equal(unreach, want.unreach) || fault != (api.Fault{}) {
		t.Errorf("%s: Read(% x) = %+v, %+v, %+v, %v, want %+v", name, b, a, reach, unreach, fault, want)
	}
}

// wantFault checks that bytes have a fault, and say nothing.
func wantFault(t *testing.T, name string, b []byte, err api.Errno, at int) {
	t.Helper()
	a, reach, unreach, fault := attr.Read(b)
	if !attr.Zero(a) || len(reach) != 0 || len(unreach) != 0 || fault != (api.Fault{Err: err, At: at}) {
		t.Errorf("%s: Read(% x) = %+v, %+v, %+v, %v, want %v at %d", name, b, a, reach, unreach, fault, err, at)
	}
}

// wantFaultBehind checks that bytes have a fault at their start, also behind attributes without one; unless they are short, also before others, with faults or without.
func wantFaultBehind(t *testing.T, name string, b []byte, err api.Errno) {
	t.Helper()
	wantFault(t, name, b, err, 0)
	skipped := unhex(t, "80 63 02 0000  f3 ff 0001 00")
	wantFault(t, name+" behind skipped ones", slices.Concat(skipped, b), err, len(skipped))
	if err == api.ErrShort {
		return
	}
	for _, text := range []string{"80", "40 63 00", "40 01 01 03", "40 01 01 00", "80 63 00", "00 00 00", "40 01"} {
		wantFault(t, name+" before others", slices.Concat(b, unhex(t, text)), err, 0)
	}
}

// P5.3: what Bytes writes is read, and no bytes say nothing.
func TestRead(t *testing.T) {
	wantRead(t, "nil", nil, code{})
	wantRead(t, "empty", []byte{}, code{})
	for _, x := range codes {
		wantRead(t, x.name, unhex(t, x.text), x)
	}
}

// P5.3: bytes that end within an attribute are too short, whatever its flags and its code.
func TestReadShort(t *testing.T) {
	for _, flags := range []byte{0x00, 0x40, 0x80, 0xc0, 0xe0, 0x0f, 0x10, 0x50, 0x90, 0xd0, 0xff} {
		for _, code := range []byte{0, 1, 2, 3, 4, 5, 9, 10, 14, 15, 16, 22, 99, 255} {
			for _, size := range []int{0, 1, 4, 40, 255} {
				b := piece(flags, code, make([]byte, size))
				for length := 1; length < len(b); length++ {
					wantFaultBehind(t, "cut off", b[:length], api.ErrShort)
				}
			}
		}
		wantFaultBehind(t, "a length of two bytes", append([]byte{flags | 0x10, 16, 1, 0}, make([]byte, 255)...), api.ErrShort)
		wantFaultBehind(t, "the greatest length", append([]byte{flags | 0x10, 16, 255, 255}, make([]byte, 65534)...), api.ErrShort)
	}
	for _, k := range known {
		b := piece(k.flags, k.code, unhex(t, k.value))
		for length := 1; length < len(b); length++ {
			wantFaultBehind(t, "cut off", b[:length], api.ErrShort)
			wantFault(t, "cut off behind itself", slices.Concat(b, b[:length]), api.ErrShort, len(b))
		}
	}
}

// P5.3: an attribute with another code is skipped any number of times if it is optional, and otherwise a fault.
func TestReadUnknown(t *testing.T) {
	for code := range 256 {
		for flags := range 256 {
			if isKnown(byte(code)) {
				continue
			}
			b := piece(byte(flags), byte(code), []byte{1, 2, 3})
			if flags < 0x80 {
				wantFaultBehind(t, "unknown", b, api.ErrAttr)
				continue
			}
			_, _, _, fault := attr.Read(slices.Concat(b, b, b))
			if fault != (api.Fault{}) {
				t.Errorf("Read(% x), three times: %v", b, fault)
			}
		}
	}
	for _, size := range []int{0, 1, 255, 256, 65535} {
		skipped := piece(0x90, 99, make([]byte, size))
		wantRead(t, "skipped", slices.Concat(skipped, skipped, unhex(t, plainText), skipped, unhex(t, reachText), skipped), code{reach: flood})
		wantRead(t, "skipped", slices.Concat(skipped, skipped), code{})
		wantFault(t, "not skipped", slices.Concat(skipped, piece(0x50, 99, make([]byte, size))), api.ErrAttr, len(skipped))
	}
}

// P5.3: the flags of a known attribute are those of the table; which bits do not matter depends on the code.
func TestReadFlags(t *testing.T) {
	for _, k := range known {
		free := byte(0x10)
		if k.code == 16 || k.code == 22 {
			free = 0x30
		}
		for flags := range 256 {
			b := piece(byte(flags), k.code, unhex(t, k.value))
			bad := piece(byte(flags), k.code, []byte{0xff})
			if byte(flags)|free != k.flags|free {
				wantFaultBehind(t, "flags", b, api.ErrAttr)
				wantFaultBehind(t, "flags and value", bad, api.ErrAttr)
				continue
			}
			wantFaultBehind(t, "value", bad, api.ErrForm)
			want := api.Fault{}
			if k.code == 14 {
				want = api.Fault{Err: api.ErrAttr, At: len(b)}
			}
			if _, _, _, fault := attr.Read(b); fault != want {
				t.Errorf("Read(% x): %v, want %v", b, fault, want)
			}
		}
	}
}

// P5.3: no attribute of the table is there twice; its value does not matter then, but its flags do.
func TestReadDouble(t *testing.T) {
	for _, k := range known {
		once := piece(k.flags, k.code, unhex(t, k.value))
		long := piece(k.flags|0x10, k.code, unhex(t, k.value))
		skipped := unhex(t, "80 63 01 00")
		at := len(once)
		wantFault(t, "twice", slices.Concat(once, once), api.ErrDouble, at)
		wantFault(t, "three times", slices.Concat(once, once, once), api.ErrDouble, at)
		wantFault(t, "with another length", slices.Concat(once, long), api.ErrDouble, at)
		wantFault(t, "not at once", slices.Concat(once, skipped, once), api.ErrDouble, at+4)
		wantFault(t, "without a value", slices.Concat(once, piece(k.flags, k.code, nil)), api.ErrDouble, at)
		wantFault(t, "with a bad value", slices.Concat(once, piece(k.flags, k.code, []byte{0xff})), api.ErrDouble, at)
		wantFault(t, "with bad flags", slices.Concat(once, piece(k.flags^0xc0, k.code, unhex(t, k.value))), api.ErrAttr, at)
		wantFault(t, "cut off", slices.Concat(once, once[:len(once)-1]), api.ErrShort, at)
		for _, other := range known {
			if other.code != k.code {
				between := piece(other.flags, other.code, unhex(t, other.value))
				wantFault(t, "with another one between", slices.Concat(once, between, once), api.ErrDouble, at+len(between))
			}
		}
	}
}

// P5.3: a value that is not of the form of the table is a fault, whichever way its length is encoded.
func TestReadForm(t *testing.T) {
	number := []string{"", "00", "0000", "000000", "0000000000", "0000000000000000"}
	texts := map[byte][]string{
		1: {"", "03", "04", "80", "ff", "0000", "0001", "0100", "00000000"},
		2: {"00", "02", "01", "02 00", "01 00", "00 00", "02 01", "02 01 000000", "02 01 0000000000", "02 00 00000001", "02 02 00000001", "02 02 00000001 000000",
			"02 01 00000001 00000002", "02 01 00000001 02", "02 01 00000001 02 00", "02 01 00000001 02 01 00000002", "01 01 00000001", "03 01 00000001", "00 01 00000001", "ff 01 00000001", "00000001",
			"02 21" + strings.Repeat("00000001", 33), "02 20" + strings.Repeat("00000001", 33), "02 20" + strings.Repeat("00000001", 31), "02 1f" + strings.Repeat("00000001", 32),
			"02 ff" + strings.Repeat("00000001", 255), "02 00" + strings.Repeat("00000001", 256), "02 20" + strings.Repeat("00000001", 32) + "00", "02 20" + strings.Repeat("00000001", 288)},
		4:  number,
		5:  number,
		9:  number,
		10: {"", "00", "000000", "00000001 00", "00000001 000000", "0000000100", strings.Repeat("00000001", 17), strings.Repeat("00000001", 16) + "00", strings.Repeat("00000001", 32), strings.Repeat("00000001", 256)},
		14: {"", "00", "001946", "001946 04", "001946 04 0aff0001", "001946 04 0aff0001 00", "001946 04 0aff00 00" + floodText, "001946 03 0aff00 00" + floodText, "001946 05 0aff000100 00" + floodText,
			"001946 00 00" + floodText, "001946 04 0aff0001 01" + floodText, "001946 04 0aff0001 80" + floodText, "001946 04 0aff0001" + floodText, "001946 04 0aff0001 0000" + floodText,
			"001945 04 0aff0001 00" + floodText, "001846 04 0aff0001 00" + floodText, "011946 04 0aff0001 00" + floodText, "001947 04 0aff0001 00" + floodText, "1946 04 0aff0001 00" + floodText,
			"001946 04 0aff0001 00 03", "001946 04 0aff0001 00 06 00", "001946 04 0aff0001 00 03 00", "001946 04 0aff0001 00" + floodText + "03", "001946 04 0aff0001 00" + floodText + "00",
			"001946 04 0aff0001 00" + floodText + "06 00", "001946 04 0aff0001 00 06 00" + floodText, "001946 04 0aff0001 00 03 10 00010aff00010005 00000000 20 0aff00"},
		15: {"", "00", "0019", "001945", "001947", "001846", "011946", "194600", "001946 00", "001946 03", "001946 06 00", "001946 03 00", "001946" + floodText + "03", "001946" + floodText + "06 00",
			"001946 03 00" + floodText, "001946 04 0aff0001 00" + floodText, "001945" + floodText, "1946" + floodText},
		16: {"", "00", "00000000000000", "000000000000000001", "0000000000000001 00000000", strings.Repeat("0000000000000001", 65), strings.Repeat("0000000000000001", 64) + "00", strings.Repeat("0000000000000001", 63) + "00000000000000", strings.Repeat("0000000000000001", 512)},
		22: {"", "00", "00 06", "00 06 000001", "00 06 000001 000000", "00 06 000001 0000000100", "00 06 000001 00000001 00000000", "00 03 000001 00000001", "00 03 000001 00000001 000000", "00 03 000001 00000001 0000000000",
			"01 06 000001 00000001", "80 06 000001 00000001", "01 03 000001 00000001 00000001", "00 00 000000 00000000", "00 00 000000 00000000 00000000", "00 00", "00 01 000001 00000001", "00 02 000001 00000001", "00 04 000001 00000001",
			"00 05 000001 00000001", "00 07 000001 00000001", "00 07 000001 00000001 00000001", "00 83 000001 00000001 00000001", "00 ff 000001 00000001", "00 01 000001 00000001 00000001", "06 000001 00000001"},
	}
	for _, k := range known {
		if len(texts[k.code]) == 0 {
			t.Errorf("the test has no values for the code %d", k.code)
		}
		for _, text := range texts[k.code] {
			value := unhex(t, text)
			wantFaultBehind(t, "long", piece(k.flags|0x10, k.code, value), api.ErrForm)
			if len(value) < 256 {
				wantFaultBehind(t, "short", piece(k.flags, k.code, value), api.ErrForm)
			}
		}
	}
}

// P5.3: an Origin is from 0 to 2.
func TestReadOrigins(t *testing.T) {
	for origin := range 256 {
		b := slices.Concat([]byte{0x40, 1, 1, byte(origin)}, unhex(t, "40 02 00"+reachText))
		if origin <= 2 {
			wantRead(t, "origin", b, code{a: api.Attrs{Origin: origin}, reach: flood})
		} else {
			wantFault(t, "origin", b, api.ErrForm, 0)
		}
	}
}

// P5.3: lists have as many elements as Check allows, but not none, except for an empty path.
func TestReadLengths(t *testing.T) {
	behind := func(flags, number byte, value []byte) []byte {
		b := unhex(t, "40 01 01 00"+reachText)
		if number != 2 {
			b = append(b, 0x40, 2, 0)
		}
		return append(b, piece(flags|0x10, number, value)...)
	}
	for n := range 300 {
		path := behind(0x40, 2, append([]byte{2, byte(n)}, make([]byte, 4*n)...))
		clusters := behind(0x80, 10, make([]byte, 4*n))
		comms := behind(0xc0, 16, make([]byte, 8*n))
		wantListOf(t, path, 35, n, 32, api.Attrs{Path: make([]uint32, n)})
		wantListOf(t, clusters, 38, n, 16, api.Attrs{Clusters: make([]api.IP, n)})
		wantListOf(t, comms, 38, n, 64, api.Attrs{Comms: make([]api.Comm, n)})
	}
	wantRead(t, "an empty path", behind(0x40, 2, nil), code{reach: flood})
}

// wantListOf checks that bytes whose list of n elements stands in an attribute at an offset say what they should, or have a fault there.
func wantListOf(t *testing.T, b []byte, at, n, most int, want api.Attrs) {
	t.Helper()
	if n == 0 || n > most {
		wantFault(t, "list", b, api.ErrForm, at)
		return
	}
	wantRead(t, "list", b, code{a: want, reach: flood})
}

// P5.3: any encoding of a length is accepted, and the bit 0x20 of communities and tunnels.
func TestReadLengthEncodings(t *testing.T) {
	var short, long, partial []byte
	want := code{
		a: api.Attrs{Origin: 1, Path: []uint32{9}, Next: 0x0aff0001, HasMed: true, Med: 1, HasPref: true, Pref: 2, HasOriginator: true, Originator: 3,
			Clusters: []api.IP{4, 5}, Comms: []api.Comm{{7: 6}, {7: 7}}, Tunnel: api.Tunnel{Kind: 6, Label: 1, Root: 0x0aff0001}},
		reach: flood, unreach: []api.NLRI{autoRoute},
	}
	for _, k := range known {
		value := unhex(t, k.value)
		short = append(short, piece(k.flags, k.code, value)...)
		long = append(long, piece(k.flags|0x10, k.code, value)...)
		if k.code == 16 || k.code == 22 {
			partial = append(partial, piece(k.flags|0x20, k.code, value)...)
		} else {
			partial = append(partial, piece(k.flags, k.code, value)...)
		}
	}
	wantRead(t, "short", short, want)
	wantRead(t, "long", long, want)
	wantRead(t, "partial", partial, want)
}

// P5.3: announced routes need ORIGIN and AS_PATH, which may stand anywhere; this is found last.
func TestReadIncomplete(t *testing.T) {
	origin, path, reach := "40 01 01 02", "40 02 00", reachText
	want := code{a: api.Attrs{Origin: 2}, reach: flood}
	for _, text := range []string{origin + path + reach, origin + reach + path, path + reach + origin, reach + path + origin, reach + origin + path} {
		wantRead(t, "complete", unhex(t, text), want)
	}
	for _, text := range []string{reach, origin + reach, path + reach, reach + origin, reach + path, reach + "80 63 00", "c0 10 08 0000000000000001" + reach + "80 0f 03 001946"} {
		b := unhex(t, text)
		wantFault(t, "incomplete", b, api.ErrAttr, len(b))
		wantFault(t, "incomplete and cut off", append(b, 0x40), api.ErrShort, len(b))
		wantFault(t, "incomplete with a bad value", append(b, 0x80, 4, 0), api.ErrForm, len(b))
		wantFault(t, "incomplete with an unknown one", append(b, 0x40, 3, 0), api.ErrAttr, len(b))
	}
}

// P5.3: without announced routes there are no attributes, whatever was read; withdrawn routes there may be.
func TestReadWithoutRoutes(t *testing.T) {
	var others []byte
	for _, k := range known {
		if k.code == 14 || k.code == 15 {
			continue
		}
		b := piece(k.flags, k.code, unhex(t, k.value))
		others = append(others, b...)
		wantRead(t, "alone", b, code{})
		wantRead(t, "with withdrawn routes", slices.Concat(b, unhex(t, "80 0f 1e 001946"+autoText)), code{unreach: []api.NLRI{autoRoute}})
		wantRead(t, "with no routes", slices.Concat(unhex(t, "80 0f 03 001946"), b), code{})
	}
	wantRead(t, "all others", others, code{})
	wantRead(t, "all others with withdrawn routes", append(others, unhex(t, "80 0f 1e 001946"+autoText)...), code{unreach: []api.NLRI{autoRoute}})
}

// P5.3: of the faults of several attributes, the first one counts.
func TestReadFirstFault(t *testing.T) {
	good := unhex(t, "80 04 04 00000007")
	faults := []struct {
		text string
		want api.Errno
	}{{"40 63 00", api.ErrAttr}, {"80 01 01 00", api.ErrAttr}, {"80 04 04 00000007", api.ErrDouble}, {"40 01 01 03", api.ErrForm}, {"80 0f 02 0019", api.ErrForm}, {"40 05 03 000000", api.ErrForm}}
	for _, x := range faults {
		for _, y := range faults {
			b := unhex(t, x.text)
			wantFault(t, "two faults", slices.Concat(good, b, unhex(t, y.text)), x.want, len(good))
			wantFault(t, "two faults", slices.Concat(good, b, unhex(t, reachText), unhex(t, y.text), []byte{0x40}), x.want, len(good))
			wantFault(t, "two faults", slices.Concat(unhex(t, reachText), good, b, unhex(t, y.text)), x.want, len(good)+31)
		}
	}
}

// P5.3: as many routes are read as a value can have.
func TestReadManyRoutes(t *testing.T) {
	list := unhex(t, strings.Repeat(floodText, 3448))
	want := slices.Repeat(flood, 3448)
	reach := piece(0x90, 14, append(unhex(t, "001946 04 00000000 00"), list...))
	unreach := piece(0x90, 15, append(unhex(t, "001946"), list...))
	wantRead(t, "announced", slices.Concat(unhex(t, plainText), reach), code{reach: want})
	wantRead(t, "withdrawn", unreach, code{unreach: want})
	wantRead(t, "both", slices.Concat(unreach, unhex(t, plainText), reach), code{reach: want, unreach: want})
}

// R4: Read does not change its argument, and keeps neither it nor its results.
func TestReadSharesNothing(t *testing.T) {
	want := codes[len(codes)-1]
	memory := append(unhex(t, want.text), 7, 7, 7, 7)
	b := memory[:len(memory)-4]
	a, reach, unreach, _ := attr.Read(b)
	if !bytes.Equal(memory, append(unhex(t, want.text), 7, 7, 7, 7)) {
		t.Errorf("Read changes its argument to % x", memory)
	}
	again, reachAgain, unreachAgain, _ := attr.Read(b)
	clear(memory)
	a.Path[0], a.Clusters[0], a.Comms[0], reach[0], unreach[0] = 99, 99, api.Comm{99}, macRoute, macRoute
	if !sameAttrs(again, want.a) || !slices.Equal(reachAgain, want.reach) || !slices.Equal(unreachAgain, want.unreach) {
		t.Errorf("Read shares memory: %+v, %+v, %+v", again, reachAgain, unreachAgain)
	}
	reach, unreach = append(reach, macRoute), append(unreach, macRoute)
	if reach[0] != macRoute || unreach[0] != macRoute || len(reach) != 2 || len(unreach) != 2 {
		t.Errorf("the lists of routes share memory: %+v, %+v", reach, unreach)
	}
}
