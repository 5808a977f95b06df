package packet_test

import (
	"bytes"
	"math/rand"
	"testing"

	"leafmesh/api"
	"leafmesh/packet"
)

// validFrame returns a frame that Check accepts, with any values in the fields that its kind uses.
func validFrame(random *rand.Rand) api.Frame {
	f := api.Frame{Kind: random.Intn(3), Src: someMAC(random) &^ (1 << 40), Dst: someMAC(random), Data: random.Uint64() >> random.Intn(64)}
	switch f.Kind {
	case 1:
		f.ARP = api.ARP{Op: 1 + random.Intn(2), SenderMAC: someMAC(random), SenderIP: api.IP(random.Uint32()), TargetMAC: someMAC(random), TargetIP: api.IP(random.Uint32())}
	case 2:
		f.IP = api.Head{Src: api.IP(random.Uint32()), Dst: api.IP(random.Uint32()), TTL: random.Intn(256), Proto: []int{6, 17, random.Intn(256)}[random.Intn(3)]}
		if f.IP.Proto == 6 || f.IP.Proto == 17 {
			f.IP.SrcPort, f.IP.DstPort = random.Intn(65536), random.Intn(65536)
		}
	}
	return f
}

func someMAC(random *rand.Rand) api.MAC {
	return api.MAC(random.Uint64() >> 16 >> random.Intn(48))
}

// isFrame reports whether bytes are an encoded frame, as the table of the chapter says it.
func isFrame(b []byte) bool {
	if len(b) < 14 || b[6]%2 == 1 {
		return false
	}
	part := b[14:]
	switch kind := [2]byte{b[12], b[13]}; kind {
	case [2]byte{0x88, 0xb5}:
		return len(part) == 8
	case [2]byte{0x08, 0x06}:
		return len(part) == 36 && (string(part[:8]) == "\x00\x01\x08\x00\x06\x04\x00\x01" || string(part[:8]) == "\x00\x01\x08\x00\x06\x04\x00\x02")
	case [2]byte{0x08, 0x00}:
		if len(part) < 28 || string(part[:8]) != "\x45\x00\x00"+string(rune(len(part)))+"\x00\x00\x00\x00" {
			return false
		}
		sum := 0
		for i := 0; i < 20; i += 2 {
			sum += int(part[i])<<8 + int(part[i+1])
		}
		ported := part[9] == 6 || part[9] == 17
		return sum%65535 == 0 && (part[10] != 255 || part[11] != 255) &&
			(!ported && len(part) == 28 || ported && len(part) == 36 && string(part[24:28]) == "\x00\x10\x00\x00")
	}
	return false
}

// P7.4: frames are read as they were encoded.
func TestEncodedIsRead(t *testing.T) {
	random := rand.New(rand.NewSource(1))
	for range 20000 {
		f := validFrame(random)
		wantCheck(t, "valid", f, api.OK)
		b, _ := packet.Bytes(f)
		if !isFrame(b) {
			t.Errorf("% x is no frame", b)
		}
		wantRead(t, b, f)
	}
}

// P7.4, P7.3: what is read is exactly what is written: the bytes of a changed frame are read if they are those of a frame, and then written again.
func TestReadIsEncoded(t *testing.T) {
	random := rand.New(rand.NewSource(2))
	seen := map[bool]int{}
	for range 100000 {
		b, _ := packet.Bytes(validFrame(random))
		for range 1 + random.Intn(2) {
			b[random.Intn(len(b))] = []byte{0, 1, 2, 6, 17, 28, 36, 255, byte(random.Intn(256))}[random.Intn(9)]
		}
		switch random.Intn(12) {
		case 0:
			b = append(b, make([]byte, random.Intn(9))...)
		case 1:
			b = b[:len(b)-random.Intn(9)]
		}
		is := isFrame(b)
		seen[is]++
		f, fault := packet.Read(b)
		if (fault == api.Fault{}) != is {
			t.Errorf("Read(% x) = %+v, %v", b, f, fault)
		}
		if !is {
			continue
		}
		if back, err := packet.Bytes(f); !bytes.Equal(back, b) || err != api.OK {
			t.Errorf("% x is read as %+v and written as % x", b, f, back)
		}
	}
	if seen[true] < 10000 || seen[false] < 10000 {
		t.Errorf("the test has %d frames and %d others", seen[true], seen[false])
	}
}

// P1, P2, P7.3: any bytes are read, the same each time; a fault comes without a frame.
func TestAnyBytes(t *testing.T) {
	random := rand.New(rand.NewSource(3))
	types := []string{"\x88\xb5", "\x08\x06", "\x08\x00"}
	for range 20000 {
		b := make([]byte, random.Intn(60))
		random.Read(b)
		if len(b) > 13 {
			copy(b[12:], types[random.Intn(3)])
		}
		f, fault := packet.Read(b)
		again, faultAgain := packet.Read(b)
		if f != again || fault != faultAgain {
			t.Errorf("Read(% x) = %+v, %v, then %+v, %v", b, f, fault, again, faultAgain)
		}
		if fault.Err != api.OK && f != (api.Frame{}) || (fault.Err == api.OK) != isFrame(b) {
			t.Errorf("Read(% x) = %+v, %v", b, f, fault)
		}
	}
}

// P1, P2, P7.1: any frame is checked, the same each time, and is encoded if it is accepted.
func TestAnyFrame(t *testing.T) {
	random := rand.New(rand.NewSource(4))
	accepted := 0
	for range 20000 {
		f := validFrame(random)
		number := int(random.Uint64() >> random.Intn(64))
		for range random.Intn(3) {
			switch random.Intn(9) {
			case 0:
				f.Kind = random.Intn(5) - 1
			case 1:
				f.Src = api.MAC(number)
			case 2:
				f.Dst = api.MAC(number)
			case 3:
				f.ARP.Op = number
			case 4:
				f.ARP.TargetMAC = api.MAC(number)
			case 5:
				f.IP.TTL = number
			case 6:
				f.IP.Proto = number
			case 7:
				f.IP.SrcPort = number
			case 8:
				f.IP = api.Head{}
			}
		}
		err := packet.Check(f)
		wantCheck(t, "any", f, err)
		if b, _ := packet.Bytes(f); err == api.OK {
			accepted++
			wantRead(t, b, f)
		}
	}
	if accepted < 5000 {
		t.Errorf("the test has only %d frames that are accepted", accepted)
	}
}

// P7.5: a change of a single byte of the IPv4 header is rejected.
func TestChangedHeader(t *testing.T) {
	random := rand.New(rand.NewSource(5))
	for range 100000 {
		f := validFrame(random)
		if f.Kind != 2 {
			continue
		}
		b, _ := packet.Bytes(f)
		b[14+random.Intn(20)] ^= byte(1 + random.Intn(255))
		if got, fault := packet.Read(b); fault.Err == api.OK || got != (api.Frame{}) {
			t.Errorf("Read(% x) = %+v, %v", b, got, fault)
		}
	}
}

// P7.2: the sum of an IPv4 header with its checksum has all bits, and that of other bytes does not depend on the order of the numbers.
func TestSumTheorems(t *testing.T) {
	random := rand.New(rand.NewSource(6))
	for range 2000 {
		f := validFrame(random)
		if b, _ := packet.Bytes(f); f.Kind == 2 && packet.Sum(b[14:34]) != 0 {
			t.Errorf("the checksum of % x is another one", b)
		}
		b := make([]byte, random.Intn(50))
		random.Read(b)
		sum := 0
		for i, x := range b {
			sum += int(x) << (8 * (1 - i%2))
		}
		for sum > 65535 {
			sum = sum/65536 + sum%65536
		}
		if got := packet.Sum(b); int(got) != 65535-sum {
			t.Errorf("Sum(% x) = %04x", b, got)
		}
	}
}

// The chapter's examples.
func TestExamples(t *testing.T) {
	b, err := packet.Bytes(api.Frame{Src: 0x020000000001, Dst: api.Broadcast, Kind: api.FrameData, Data: 7})
	if string(b) != "\xff\xff\xff\xff\xff\xff\x02\x00\x00\x00\x00\x01\x88\xb5\x00\x00\x00\x00\x00\x00\x00\x07" || err != api.OK {
		t.Errorf("% x, %v", b, err)
	}
	b, err = packet.Bytes(api.Frame{Kind: api.FrameIP, IP: api.Head{Src: 10<<24 | 1<<16 | 1, Dst: 10<<24 | 1<<16 | 2, TTL: 64, Proto: 1}})
	if string(b[14:34]) != "\x45\x00\x00\x1c\x00\x00\x00\x00\x40\x01\x66\xdd\x0a\x01\x00\x01\x0a\x01\x00\x02" || err != api.OK {
		t.Errorf("% x, %v", b, err)
	}
	wantFault(t, make([]byte, 13), api.ErrShort, 13)
	wantFault(t, make([]byte, 14), api.ErrType, 12)
}
