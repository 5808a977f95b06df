package addr_test

import (
	"fmt"
	"math"
	"strings"
	"testing"

	"leafmesh/addr"
	"leafmesh/api"
)

// someBytes are bytes with one, two and three digits, and those around the edges of the digits.
var someBytes = []byte{0, 1, 9, 10, 15, 16, 31, 32, 99, 100, 127, 128, 159, 160, 199, 200, 249, 250, 255}

// P1.4: the text of a hardware address has six groups of two lower-case digits.
func TestMACText(t *testing.T) {
	tests := []struct {
		m    api.MAC
		want string
		err  api.Errno
	}{
		{0, "00:00:00:00:00:00", api.OK},
		{0x02000000000a, "02:00:00:00:00:0a", api.OK},
		{0x0123456789ab, "01:23:45:67:89:ab", api.OK},
		{0xabcdef102030, "ab:cd:ef:10:20:30", api.OK},
		{api.GatewayMAC, "00:00:5e:00:01:01", api.OK},
		{api.MaxMAC, "ff:ff:ff:ff:ff:ff", api.OK},
		{api.MaxMAC + 1, "", api.ErrRange},
		{1 << 63, "", api.ErrRange},
		{math.MaxUint64, "", api.ErrRange},
	}
	for _, x := range tests {
		if s, err := addr.MACText(x.m); s != x.want || err != x.err {
			t.Errorf("MACText(%#x) = %q, %v", x.m, s, err)
		}
	}
}

// P1.4: digits of both cases are read.
func TestParseMAC(t *testing.T) {
	tests := map[string]api.MAC{
		"00:00:00:00:00:00": 0,
		"01:23:45:67:89:ab": 0x0123456789ab,
		"AB:CD:EF:10:20:30": 0xabcdef102030,
		"aB:Cd:eF:Fe:dC:bA": 0xabcdeffedcba,
		"ff:ff:ff:ff:ff:ff": api.Broadcast,
		"00:00:5E:00:01:01": api.GatewayMAC,
	}
	for s, want := range tests {
		if m, err := addr.ParseMAC(s); m != want || err != api.OK {
			t.Errorf("ParseMAC(%q) = %#x, %v", s, m, err)
		}
	}
}

// badGroups are texts that are no group of two hexadecimal digits.
var badGroups = []string{"", "0", "000", "1", "0x", "0X", "x0", "+1", "-1", " 1", "1 ", "_1", "1_", "0g", "g0", "0G", "/0", "0/", ":0", "@0", "0@",
	"`0", "0`", "0.", "é", "١", "1\x00", "\xff\xff", "00 ", " 00", "0x00", "100"}

// P1.4: one bad group anywhere, a group too few or too many, or another separator is ErrSyntax.
func TestParseMACSyntax(t *testing.T) {
	bad := []string{"", ":", ":::::", "000000000000", "0000:0000:0000", "00-00-00-00-00-00", "00.00.00.00.00.00", "00-00:00:00:00:00", "00:00:00:00:00-00",
		"00::00:00:00:00:00", "00: 00:00:00:00:00", "\n00:00:00:00:00:00", "00:00:00:00:00:00\n", "00:00:00:00:00:00:", ":00:00:00:00:00:00",
		"00:00:00:00:00:00:00:00:00:00", "00;00;00;00;00;00", strings.Repeat("00:", 1000), strings.Repeat("0", 5000)}
	bad = append(bad, badTexts("00", ":", 6, badGroups)...)
	for _, s := range bad {
		if m, err := addr.ParseMAC(s); m != 0 || err != api.ErrSyntax {
			t.Errorf("ParseMAC(%q) = %#x, %v", s, m, err)
		}
	}
}

// badTexts returns texts of count groups with a bad one at each place, and of good ones in each other number up to 20.
func badTexts(good, separator string, count int, bad []string) []string {
	var list []string
	for at := range count {
		for _, b := range bad {
			groups := strings.Split(strings.Repeat(good+" ", count-1)+good, " ")
			groups[at] = b
			list = append(list, strings.Join(groups, separator))
		}
	}
	for n := range 20 {
		if n+1 != count {
			list = append(list, strings.Repeat(good+separator, n)+good)
		}
	}
	return list
}

// P1.4: the text of an address is its four bytes, none of them with leading zeros.
func TestIPText(t *testing.T) {
	tests := map[api.IP]string{
		0:              "0.0.0.0",
		1:              "0.0.0.1",
		0x0a010203:     "10.1.2.3",
		0x0aff0001:     "10.255.0.1",
		0xc0a86409:     "192.168.100.9",
		0x7f000000:     "127.0.0.0",
		0x80000000:     "128.0.0.0",
		math.MaxUint32: "255.255.255.255",
	}
	for ip, want := range tests {
		if s := addr.IPText(ip); s != want {
			t.Errorf("IPText(%#x) = %q", ip, s)
		}
		if got, err := addr.ParseIP(want); got != ip || err != api.OK {
			t.Errorf("ParseIP(%q) = %#x, %v", want, got, err)
		}
	}
}

// badNumbers are texts that are no decimal number from 0 to 255 without leading zeros.
var badNumbers = []string{"", "00", "01", "001", "010", "0255", "256", "257", "260", "300", "999", "1000", "2550", "4294967296", "18446744073709551616",
	"18446744073709551617", "-0", "-1", "+0", "+1", " 1", "1 ", "_1", "1_0", "1,0", "a", "ff", "1a", "0x1", "0b1", "0o1", "1e1", "١", "/", ":", "1\x00", "\xff"}

// P1.4: one bad number anywhere, a number too few or too many, or another separator is ErrSyntax.
func TestParseIPSyntax(t *testing.T) {
	bad := []string{"", ".", "...", "1", "1234", "1:2:3:4", "1,2,3,4", "1.2.3,4", "1-2.3.4", "1..2.3.4", ".1.2.3.4", "1.2.3.4.", " 1.2.3.4", "1.2.3.4 ", "1.2.3.4\n",
		"1.2.3.4/32", "10.0.0.01", "4294967295", strings.Repeat("1.", 1000), strings.Repeat("1", 5000), strings.Repeat("0", 5000)}
	bad = append(bad, badTexts("1", ".", 4, badNumbers)...)
	for _, s := range bad {
		if ip, err := addr.ParseIP(s); ip != 0 || err != api.ErrSyntax {
			t.Errorf("ParseIP(%q) = %#x, %v", s, ip, err)
		}
	}
}

// P1.4: the text of a prefix needs a valid one, but not a clean one.
func TestPrefixText(t *testing.T) {
	for _, length := range lengths() {
		for _, ip := range []api.IP{0, 0x0a010203, math.MaxUint32} {
			p, want, wantErr := api.Prefix{IP: ip, Len: length}, "", api.ErrRange
			if valid(p) {
				want, wantErr = fmt.Sprintf("%d.%d.%d.%d/%d", ip>>24, ip>>16&255, ip>>8&255, ip&255, length), api.OK
			}
			if s, err := addr.PrefixText(p); s != want || err != wantErr {
				t.Errorf("PrefixText(%v) = %q, %v", p, s, err)
			}
		}
	}
}

// P1.4: clean prefixes are read; of the others, those that are not clean give ErrForm, and bad texts ErrSyntax.
func TestParsePrefix(t *testing.T) {
	tests := []struct {
		s    string
		want api.Prefix
		err  api.Errno
	}{
		{"0.0.0.0/0", api.Prefix{}, api.OK},
		{"10.1.0.0/16", api.Prefix{IP: 0x0a010000, Len: 16}, api.OK},
		{"10.1.2.3/32", api.Prefix{IP: 0x0a010203, Len: 32}, api.OK},
		{"10.1.2.2/31", api.Prefix{IP: 0x0a010202, Len: 31}, api.OK},
		{"128.0.0.0/1", api.Prefix{IP: 0x80000000, Len: 1}, api.OK},
		{"255.255.255.255/32", api.Prefix{IP: math.MaxUint32, Len: 32}, api.OK},
		{"10.1.2.3/16", api.Prefix{}, api.ErrForm},
		{"10.1.2.3/31", api.Prefix{}, api.ErrForm},
		{"10.1.0.0/15", api.Prefix{}, api.ErrForm},
		{"0.0.0.1/0", api.Prefix{}, api.ErrForm},
		{"128.0.0.0/0", api.Prefix{}, api.ErrForm},
		{"255.255.255.255/0", api.Prefix{}, api.ErrForm},
		{"10.1.2.3/33", api.Prefix{}, api.ErrSyntax}, // the syntax comes before the form
		{"10.1.2.3/016", api.Prefix{}, api.ErrSyntax},
		{"10.1.2.03/16", api.Prefix{}, api.ErrSyntax},
		{"10.1.0.0", api.Prefix{}, api.ErrSyntax},
		{"10.1.0.0 /16", api.Prefix{}, api.ErrSyntax},
		{"10.1.0.0/16/", api.Prefix{}, api.ErrSyntax},
		{"10.1.0.0/16/16", api.Prefix{}, api.ErrSyntax},
		{"10.1.0.0//16", api.Prefix{}, api.ErrSyntax},
		{"10.1.0.0/16.0", api.Prefix{}, api.ErrSyntax},
		{"10.1.0.0\\16", api.Prefix{}, api.ErrSyntax},
		{"10.1.0/16", api.Prefix{}, api.ErrSyntax},
		{"10.1.0.0.0/16", api.Prefix{}, api.ErrSyntax},
		{"10.1.0.256/32", api.Prefix{}, api.ErrSyntax},
		{"/16", api.Prefix{}, api.ErrSyntax},
		{"/", api.Prefix{}, api.ErrSyntax},
		{"", api.Prefix{}, api.ErrSyntax},
		{"16/10.1.0.0", api.Prefix{}, api.ErrSyntax},
		{"0.0.0.0/00", api.Prefix{}, api.ErrSyntax},
		{"0.0.0.0/288", api.Prefix{}, api.ErrSyntax},
		{strings.Repeat("/", 5000), api.Prefix{}, api.ErrSyntax},
	}
	for _, x := range tests {
		if p, err := addr.ParsePrefix(x.s); p != x.want || err != x.err {
			t.Errorf("ParsePrefix(%q) = %v, %v", x.s, p, err)
		}
	}
}

// P1.4: the length is a number from 0 to 32 and nothing else.
func TestParsePrefixLength(t *testing.T) {
	for n := range 300 {
		p, err := addr.ParsePrefix(fmt.Sprintf("0.0.0.0/%d", n))
		if n <= 32 && (err != api.OK || p != api.Prefix{Len: n}) || n > 32 && (err != api.ErrSyntax || p != api.Prefix{}) {
			t.Errorf("a length of %d gives %v, %v", n, p, err)
		}
	}
	for _, length := range badNumbers {
		if p, err := addr.ParsePrefix("0.0.0.0/" + length); err != api.ErrSyntax || p != (api.Prefix{}) {
			t.Errorf("a length of %q gives %v, %v", length, p, err)
		}
	}
}

// P1.4: the text of an identifier has ten groups of two lower-case digits.
func TestESIText(t *testing.T) {
	tests := map[api.ESI]string{
		{}:           "00:00:00:00:00:00:00:00:00:00",
		{0: 3, 9: 5}: "03:00:00:00:00:00:00:00:00:05",
		{0x01, 0x23, 0x45, 0x67, 0x89, 0xab, 0xcd, 0xef, 0xf0, 0x0f}: "01:23:45:67:89:ab:cd:ef:f0:0f",
	}
	for e, want := range tests {
		if s := addr.ESIText(e); s != want {
			t.Errorf("ESIText(%v) = %q", e, s)
		}
		for _, s := range []string{want, strings.ToUpper(want)} {
			if got, err := addr.ParseESI(s); got != e || err != api.OK {
				t.Errorf("ParseESI(%q) = %v, %v", s, got, err)
			}
		}
	}
}

// P1.4: one bad group anywhere, or a group too few or too many, is ErrSyntax.
func TestParseESISyntax(t *testing.T) {
	bad := []string{"", ":", "00000000000000000000", "00-00-00-00-00-00-00-00-00-00", "00:00:00:00:00:00:00:00:00:00:", ":00:00:00:00:00:00:00:00:00:00",
		" 00:00:00:00:00:00:00:00:00:00", "00:00:00:00:00:00:00:00:00:00 ", strings.Repeat("00:", 1000)}
	bad = append(bad, badTexts("00", ":", 10, badGroups)...)
	for _, s := range bad {
		if e, err := addr.ParseESI(s); e != (api.ESI{}) || err != api.ErrSyntax {
			t.Errorf("ParseESI(%q) = %v, %v", s, e, err)
		}
	}
}

// P1.5: a hardware address is read back, from its text in either case.
func TestMACTextReadsBack(t *testing.T) {
	for shift := 0; shift < 48; shift += 8 {
		for b := range 256 {
			m := 0x0a9f10c7e005&^(0xff<<shift) | api.MAC(b)<<shift
			s, err := addr.MACText(m)
			if err != api.OK {
				t.Fatalf("MACText(%#x): %v", m, err)
			}
			for _, text := range []string{s, strings.ToUpper(s)} {
				if got, err := addr.ParseMAC(text); got != m || err != api.OK {
					t.Errorf("%#x is %q, read as %#x, %v", m, text, got, err)
				}
			}
		}
	}
}

// P1.5: an address, and each clean prefix with it, is read back.
func TestIPTextReadsBack(t *testing.T) {
	for shift := 0; shift < 32; shift += 8 {
		for b := range 256 {
			ip := 0xc70a9f05&^(0xff<<shift) | api.IP(b)<<shift
			if got, err := addr.ParseIP(addr.IPText(ip)); got != ip || err != api.OK {
				t.Errorf("%#x is %q, read as %#x, %v", ip, addr.IPText(ip), got, err)
			}
		}
	}
	for _, b := range someBytes {
		for length := range 33 {
			p := clean(api.Prefix{IP: 0x01010101 * api.IP(b), Len: length})
			s, err := addr.PrefixText(p)
			got, readErr := addr.ParsePrefix(s)
			if got != p || err != api.OK || readErr != api.OK {
				t.Errorf("%v is %q, read as %v, %v, %v", p, s, got, err, readErr)
			}
		}
	}
}

// P1.5: an identifier is read back, whatever its bytes are.
func TestESITextReadsBack(t *testing.T) {
	for at := range 10 {
		for b := range 256 {
			e := api.ESI{0x0a, 0x9f, 0x10, 0xc7, 0xe0, 0x05, 0xff, 0x80, 0x00, 0x1b}
			e[at] = byte(b)
			s := addr.ESIText(e)
			for _, text := range []string{s, strings.ToUpper(s)} {
				if got, err := addr.ParseESI(text); got != e || err != api.OK {
					t.Errorf("%v is %q, read as %v, %v", e, text, got, err)
				}
			}
		}
	}
}

// P1.4, P1.5: whatever the text is, what is read is written as that text (in lower case), and an error comes with nothing else.
func FuzzParse(f *testing.F) {
	for _, s := range []string{"", "00:00:5E:00:01:01", "10.1.0.0", "10.1.0.0/16", "10.1.2.3/16", "03:00:00:00:00:00:00:00:00:05", "::", "...", "/", "\xff"} {
		f.Add(s)
	}
	f.Fuzz(func(t *testing.T, s string) {
		m, err := addr.ParseMAC(s)
		if text, _ := addr.MACText(m); err == api.OK && text != strings.ToLower(s) || err != api.OK && (m != 0 || err != api.ErrSyntax) {
			t.Errorf("ParseMAC(%q) = %#x, %v", s, m, err)
		}
		ip, err := addr.ParseIP(s)
		if err == api.OK && addr.IPText(ip) != s || err != api.OK && (ip != 0 || err != api.ErrSyntax) {
			t.Errorf("ParseIP(%q) = %#x, %v", s, ip, err)
		}
		p, err := addr.ParsePrefix(s)
		if text, _ := addr.PrefixText(p); err == api.OK && (text != s || p != clean(p)) || err != api.OK && (p != api.Prefix{} || err != api.ErrSyntax && err != api.ErrForm) {
			t.Errorf("ParsePrefix(%q) = %v, %v", s, p, err)
		}
		e, err := addr.ParseESI(s)
		if err == api.OK && addr.ESIText(e) != strings.ToLower(s) || err != api.OK && (e != api.ESI{} || err != api.ErrSyntax) {
			t.Errorf("ParseESI(%q) = %v, %v", s, e, err)
		}
	})
}
