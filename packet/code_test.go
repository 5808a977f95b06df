package packet_test

import (
	"bytes"
	"encoding/hex"
	"math"
	"strings"
	"testing"

	"leafmesh/api"
	"leafmesh/packet"
)

// code is a frame and its bytes in hexadecimal digits.
type code struct {
	f    api.Frame
	text string
}

// codes are frames of all kinds: with fields of different bytes, with fields of zero, and with the greatest ones.
var codes = []code{
	{api.Frame{Src: 0x020000000001, Dst: api.Broadcast, Data: 7},
		"ffffffffffff 020000000001 88b5 0000000000000007"},
	{api.Frame{Src: 0x121314151617, Dst: 0x222324252627, Data: 0x3132333435363738},
		"222324252627 121314151617 88b5 3132333435363738"},
	{api.Frame{},
		"000000000000 000000000000 88b5 0000000000000000"},
	{api.Frame{Src: 0xfeffffffffff, Dst: api.Broadcast, Data: math.MaxUint64},
		"ffffffffffff feffffffffff 88b5 ffffffffffffffff"},

	{api.Frame{Src: 0x121314151617, Dst: 0x222324252627, Kind: 1, ARP: api.ARP{Op: 1, SenderMAC: 0x414243444546, SenderIP: 0x51525354, TargetMAC: 0x616263646566, TargetIP: 0x71727374}, Data: 0x3132333435363738},
		"222324252627 121314151617 0806 000108000604 0001 414243444546 51525354 616263646566 71727374 3132333435363738"},
	{api.Frame{Kind: 1, ARP: api.ARP{Op: 2}},
		"000000000000 000000000000 0806 000108000604 0002 000000000000 00000000 000000000000 00000000 0000000000000000"},
	{api.Frame{Src: 0xfeffffffffff, Dst: api.Broadcast, Kind: 1, ARP: api.ARP{Op: 2, SenderMAC: api.Broadcast, SenderIP: math.MaxUint32, TargetMAC: api.Broadcast, TargetIP: math.MaxUint32}, Data: math.MaxUint64},
		"ffffffffffff feffffffffff 0806 000108000604 0002 ffffffffffff ffffffff ffffffffffff ffffffff ffffffffffffffff"},

	{api.Frame{Src: 0x020000000001, Dst: 0x020000000002, Kind: 2, IP: api.Head{Src: 0x0a010001, Dst: 0x0a010002, TTL: 64, Proto: 1}},
		"020000000002 020000000001 0800 4500001c 00000000 4001 66dd 0a010001 0a010002 0000000000000000"},
	{api.Frame{Src: 0x121314151617, Dst: 0x222324252627, Kind: 2, IP: api.Head{Src: 0x42434445, Dst: 0x46474849, TTL: 0x41, Proto: 2}, Data: 0x3132333435363738},
		"222324252627 121314151617 0800 4500001c 00000000 4102 64c8 42434445 46474849 3132333435363738"},
	{api.Frame{Kind: 2},
		"000000000000 000000000000 0800 4500001c 00000000 0000 bae3 00000000 00000000 0000000000000000"},
	{api.Frame{Src: 0xfeffffffffff, Dst: api.Broadcast, Kind: 2, IP: api.Head{Src: math.MaxUint32, Dst: math.MaxUint32, TTL: 255, Proto: 255}, Data: math.MaxUint64},
		"ffffffffffff feffffffffff 0800 4500001c 00000000 ffff bae3 ffffffff ffffffff ffffffffffffffff"},
	{api.Frame{Kind: 2, IP: api.Head{Src: 0x7ae2, TTL: 64, Proto: 1}},
		"000000000000 000000000000 0800 4500001c 00000000 4001 0000 00007ae2 00000000 0000000000000000"},
	{api.Frame{Kind: 2, IP: api.Head{Src: 0x7ae3, TTL: 64, Proto: 1}},
		"000000000000 000000000000 0800 4500001c 00000000 4001 fffe 00007ae3 00000000 0000000000000000"},

	{api.Frame{Src: 0x121314151617, Dst: 0x222324252627, Kind: 2, IP: api.Head{Src: 0x42434445, Dst: 0x46474849, TTL: 0x41, Proto: 6, SrcPort: 0x5152, DstPort: 0x5354}, Data: 0x3132333435363738},
		"222324252627 121314151617 0800 45000024 00000000 4106 64bc 42434445 46474849 5152 5354 0010 0000 3132333435363738"},
	{api.Frame{Src: 0x020000000001, Dst: 0x020000000002, Kind: 2, IP: api.Head{Src: 0x0a010001, Dst: 0x0a010002, TTL: 64, Proto: 17}},
		"020000000002 020000000001 0800 45000024 00000000 4011 66c5 0a010001 0a010002 0000 0000 0010 0000 0000000000000000"},
	{api.Frame{Kind: 2, IP: api.Head{Proto: 6}},
		"000000000000 000000000000 0800 45000024 00000000 0006 bad5 00000000 00000000 0000 0000 0010 0000 0000000000000000"},
	{api.Frame{Src: 0xfeffffffffff, Dst: api.Broadcast, Kind: 2, IP: api.Head{Src: math.MaxUint32, Dst: math.MaxUint32, TTL: 255, Proto: 17, SrcPort: 65535, DstPort: 65535}, Data: math.MaxUint64},
		"ffffffffffff feffffffffff 0800 45000024 00000000 ff11 bbc9 ffffffff ffffffff ffff ffff 0010 0000 ffffffffffffffff"},
}

// unhex returns the bytes that hexadecimal digits stand for; spaces between them do not matter.
func unhex(t *testing.T, text string) []byte {
	t.Helper()
	b, err := hex.DecodeString(strings.ReplaceAll(text, " ", ""))
	if err != nil {
		t.Fatal(err)
	}
	return b
}

// wantRead checks that bytes are those of a frame.
func wantRead(t *testing.T, b []byte, want api.Frame) {
	t.Helper()
	if f, fault := packet.Read(b); f != want || fault != (api.Fault{}) {
		t.Errorf("Read(% x) = %+v, %v, want %+v", b, f, fault, want)
	}
}

// wantFault checks that bytes have a fault.
func wantFault(t *testing.T, b []byte, err api.Errno, at int) {
	t.Helper()
	if f, fault := packet.Read(b); f != (api.Frame{}) || fault != (api.Fault{Err: err, At: at}) {
		t.Errorf("Read(% x) = %+v, %v, want %v at %d", b, f, fault, err, at)
	}
}

// P7.2, P7.3, P7.4: each frame has its bytes, and these are read as the frame.
func TestCodes(t *testing.T) {
	for _, c := range codes {
		want := unhex(t, c.text)
		wantCheck(t, "code", c.f, api.OK)
		if b, err := packet.Bytes(c.f); !bytes.Equal(b, want) || err != api.OK {
			t.Errorf("Bytes(%+v) = % x, %v, want % x", c.f, b, err, want)
		}
		wantRead(t, want, c.f)
	}
}

// P7.2: the checksum is the complement of the sum with carries; a zero byte follows an odd one.
func TestSum(t *testing.T) {
	for _, x := range []struct {
		text string
		want uint16
	}{
		{"", 0xffff},
		{"00", 0xffff},
		{"0000", 0xffff},
		{"000000000000", 0xffff},
		{"01", 0xfeff},
		{"ff", 0x00ff},
		{"0001", 0xfffe},
		{"0100", 0xfeff},
		{"1234", 0xedcb},
		{"1234 56", 0x97cb},
		{"1234 5678", 0x9753},
		{"0012 34", 0xcbed},
		{"ffff", 0},
		{"fffe 0001", 0},
		{"ffff ffff", 0},
		{"ffff 0000", 0},
		{"ffff 0001", 0xfffe},
		{"8000 8000", 0xfffe},
		{"8000 8000 8000", 0x7ffe},
		{"ffff ffff ffff 02", 0xfdff},
		{"ff00 ff00 ff", 0x02fd},
		{"4500 001c 0000 0000 4001 0000 0a01 0001 0a01 0002", 0x66dd},
		{"4500 001c 0000 0000 4001 66dd 0a01 0001 0a01 0002", 0},
	} {
		if got := packet.Sum(unhex(t, x.text)); got != x.want {
			t.Errorf("Sum(%s) = %04x, want %04x", x.text, got, x.want)
		}
	}
	if packet.Sum(nil) != 0xffff {
		t.Error("Sum of nil")
	}
}

// P7.2: the carries of many bytes are added again, however many they are.
func TestSumOfMany(t *testing.T) {
	for _, n := range []int{2, 65534, 65535, 65536, 65537, 65538, 200000, 1 << 20} {
		// Numbers of 0xffff add nothing, whichever carries they have; the others add one each.
		b := bytes.Repeat([]byte{0xff, 0xff}, n)
		if got := packet.Sum(b); got != 0 {
			t.Errorf("Sum of %d numbers = %04x", n, got)
		}
		b = append(b, 0, 1)
		if got := packet.Sum(b); got != 0xfffe {
			t.Errorf("Sum of %d numbers and one more = %04x", n, got)
		}
		ones := bytes.Repeat([]byte{0, 1}, n)
		if got := packet.Sum(ones); got != ^uint16((n-1)%65535+1) {
			t.Errorf("Sum of %d ones = %04x", n, got)
		}
	}
}
