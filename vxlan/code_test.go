package vxlan_test

import (
	"bytes"
	"encoding/hex"
	"math"
	"strings"
	"testing"

	"leafmesh/api"
	"leafmesh/vxlan"
)

// Frames of all kinds, FrameIP without ports and with ports.
var (
	plain   = api.Frame{Src: 0x020000000001, Dst: api.Broadcast, Data: 7}
	request = api.Frame{Src: 0x020000000001, Dst: api.Broadcast, Kind: 1, ARP: api.ARP{Op: 1, SenderMAC: 0x020000000001, SenderIP: 0x0a010001, TargetIP: 0x0a010002}, Data: 9}
	ping    = api.Frame{Src: 0x020000000001, Dst: 0x020000000002, Kind: 2, IP: api.Head{Src: 0x0a010001, Dst: 0x0a010002, TTL: 64, Proto: 1}}
	stream  = api.Frame{Src: 0x121314151617, Dst: 0x222324252627, Kind: 2, IP: api.Head{Src: 0x42434445, Dst: 0x46474849, TTL: 0x41, Proto: 6, SrcPort: 0x5152, DstPort: 0x5354}, Data: 0x3132333435363738}
)

// The bytes of these frames in hexadecimal digits.
const (
	plainText   = "ffffffffffff 020000000001 88b5 0000000000000007"
	requestText = "ffffffffffff 020000000001 0806 000108000604 0001 020000000001 0a010001 000000000000 0a010002 0000000000000009"
	pingText    = "020000000002 020000000001 0800 4500001c 00000000 4001 66dd 0a010001 0a010002 0000000000000000"
	streamText  = "222324252627 121314151617 0800 45000024 00000000 4106 64bc 42434445 46474849 5152 5354 0010 0000 3132333435363738"
)

// frames is a frame of each size.
var frames = []api.Frame{plain, request, ping, stream}

// code is a packet and its bytes in hexadecimal digits.
type code struct {
	p    api.Packet
	text string
}

// codes are packets with frames of all kinds: with fields of different bytes, with fields of zero, with the greatest ones, and with checksums at the ends of their range.
var codes = []code{
	{api.Packet{Src: 0x0aff0001, Dst: 0x0aff0002, TTL: 16, Entropy: 50000, VNI: 100, Inner: plain},
		"4500003a 00000000 1011 94b3 0aff0001 0aff0002 c350 12b5 0026 0000 08 000000 000064 00" + plainText},
	{api.Packet{Src: 0x41424344, Dst: 0x51525354, TTL: 0x61, Entropy: 0x7172, VNI: 0x818283, Mark: 0x919293, Inner: plain},
		"4500003a 00000000 6111 3087 41424344 51525354 7172 12b5 0026 0000 08 919293 818283 00" + plainText},
	{api.Packet{},
		"4500003a 00000000 0011 bab4 00000000 00000000 0000 12b5 0026 0000 08 000000 000000 00 000000000000 000000000000 88b5 0000000000000000"},
	{api.Packet{Src: math.MaxUint32, Dst: math.MaxUint32, TTL: 255, Entropy: 65535, VNI: api.MaxVNI, Mark: api.MaxVNI, Inner: api.Frame{Src: 0xfeffffffffff, Dst: api.Broadcast, Data: math.MaxUint64}},
		"4500003a 00000000 ff11 bbb3 ffffffff ffffffff ffff 12b5 0026 0000 08 ffffff ffffff 00 ffffffffffff feffffffffff 88b5 ffffffffffffffff"},
	{api.Packet{Src: 0xaab4, TTL: 16, Entropy: 1, VNI: 2, Mark: 3, Inner: plain},
		"4500003a 00000000 1011 0000 0000aab4 00000000 0001 12b5 0026 0000 08 000003 000002 00" + plainText},
	{api.Packet{Src: 0xaab5, TTL: 16, Entropy: 1, VNI: 2, Mark: 3, Inner: plain},
		"4500003a 00000000 1011 fffe 0000aab5 00000000 0001 12b5 0026 0000 08 000003 000002 00" + plainText},
	{api.Packet{Src: 0x0aff0003, Dst: 0x0aff0001, TTL: 15, Entropy: 49152, VNI: 0x00c351, Mark: 0x07a121, Inner: request},
		"45000056 00000000 0f11 9596 0aff0003 0aff0001 c000 12b5 0042 0000 08 07a121 00c351 00" + requestText},
	{api.Packet{Src: 0x0aff0003, Dst: 0xe8000001, TTL: 1, Entropy: 65535, VNI: 1, Mark: api.MaxVNI, Inner: ping},
		"4500004e 00000000 0111 c69c 0aff0003 e8000001 ffff 12b5 003a 0000 08 ffffff 000001 00" + pingText},
	{api.Packet{Src: 0x0aff0001, Dst: 0x0aff0002, TTL: 9, Entropy: 4096, VNI: api.MaxVNI, Mark: 1, Inner: stream},
		"45000056 00000000 0911 9b97 0aff0001 0aff0002 1000 12b5 0042 0000 08 000001 ffffff 00" + streamText},
}

// unhex returns the bytes that hexadecimal digits stand for; spaces between them do not matter.
func unhex(t *testing.T, text string) []byte {
	t.Helper()
	b, err := hex.DecodeString(strings.ReplaceAll(text, " ", ""))
	if err != nil {
		t.Fatal(err)
	}
	return b
}

// wantRead checks that bytes are those of a packet.
func wantRead(t *testing.T, b []byte, want api.Packet) {
	t.Helper()
	if p, fault := vxlan.Read(b); p != want || fault != (api.Fault{}) {
		t.Errorf("Read(% x) = %+v, %v, want %+v", b, p, fault, want)
	}
}

// wantFault checks that bytes have a fault.
func wantFault(t *testing.T, b []byte, err api.Errno, at int) {
	t.Helper()
	if p, fault := vxlan.Read(b); p != (api.Packet{}) || fault != (api.Fault{Err: err, At: at}) {
		t.Errorf("Read(% x) = %+v, %v, want %v at %d", b, p, fault, err, at)
	}
}

// P8.1, P8.2, P8.4: each packet has its bytes, and these are read as the packet.
func TestCodes(t *testing.T) {
	for _, c := range codes {
		want := unhex(t, c.text)
		wantCheck(t, "code", c.p, api.OK)
		if b, err := vxlan.Bytes(c.p); !bytes.Equal(b, want) || err != api.OK {
			t.Errorf("Bytes(%+v) = % x, %v, want % x", c.p, b, err, want)
		}
		wantRead(t, want, c.p)
	}
}

// The chapter's examples.
func TestExamples(t *testing.T) {
	b, err := vxlan.Bytes(api.Packet{Src: 10<<24 | 255<<16 | 1, Dst: 10<<24 | 255<<16 | 2, TTL: 16, Entropy: 50000, VNI: 100, Inner: api.Frame{Src: 0x020000000001, Dst: api.Broadcast, Data: 7}})
	if len(b) != 58 || string(b[20:36]) != "\xc3\x50\x12\xb5\x00\x26\x00\x00\x08\x00\x00\x00\x00\x00\x64\x00" || err != api.OK {
		t.Errorf("% x, %v", b, err)
	}
	if vxlan.Hash(nil) != 2166136261 || vxlan.Hash([]byte{0}) != 84696351 {
		t.Error("Hash", vxlan.Hash(nil), vxlan.Hash([]byte{0}))
	}
	wantFault(t, make([]byte, 35), api.ErrShort, 35)
	wantFault(t, make([]byte, 36), api.ErrType, 9)
}
