package vxlan_test

import (
	"bytes"
	"math/rand"
	"testing"

	"leafmesh/api"
	"leafmesh/packet"
	"leafmesh/vxlan"
)

func someMAC(random *rand.Rand) api.MAC {
	return api.MAC(random.Uint64() >> 16 >> random.Intn(48))
}

// validFrame returns a frame that layer 7 accepts, with any values in the fields that its kind uses.
func validFrame(random *rand.Rand) api.Frame {
	f := api.Frame{Kind: random.Intn(3), Src: someMAC(random) &^ (1 << 40), Dst: someMAC(random), Data: random.Uint64()}
	switch f.Kind {
	case 1:
		f.ARP = api.ARP{Op: 1 + random.Intn(2), SenderMAC: someMAC(random), SenderIP: api.IP(random.Uint32()), TargetMAC: someMAC(random), TargetIP: api.IP(random.Uint32())}
	case 2:
		f.IP = api.Head{Src: api.IP(random.Uint32()), Dst: api.IP(random.Uint32()), TTL: random.Intn(256), Proto: []int{1, 6, 17, 50}[random.Intn(4)]}
		if packet.Ported(f.IP.Proto) {
			f.IP.SrcPort, f.IP.DstPort = random.Intn(65536), random.Intn(65536)
		}
	}
	return f
}

// validPacket returns a packet that Check accepts.
func validPacket(random *rand.Rand) api.Packet {
	return api.Packet{
		Src:     api.IP(random.Uint32()),
		Dst:     api.IP(random.Uint32()),
		TTL:     random.Intn(256),
		Entropy: random.Intn(65536),
		VNI:     random.Uint32() >> 8 >> random.Intn(24),
		Mark:    random.Uint32() >> 8 >> random.Intn(24),
		Inner:   validFrame(random),
	}
}

// isPacket reports whether bytes are an encoded packet, as the chapter says it.
func isPacket(b []byte) bool {
	if len(b) < 36 {
		return false
	}
	if _, fault := packet.Read(b[36:]); fault.Err != api.OK {
		return false
	}
	total := 0
	for i := 0; i < 20; i += 2 {
		total += int(b[i])<<8 + int(b[i+1])
	}
	return string(b[:8]) == "\x45\x00\x00"+string(rune(len(b)))+"\x00\x00\x00\x00" && b[9] == 17 &&
		total%65535 == 0 && (b[10] != 255 || b[11] != 255) &&
		string(b[22:29]) == "\x12\xb5\x00"+string(rune(len(b)-20))+"\x00\x00\x08" && b[35] == 0
}

// P8.4: packets are read as they were encoded.
func TestEncodedIsRead(t *testing.T) {
	random := rand.New(rand.NewSource(3))
	for range 20000 {
		p := validPacket(random)
		wantCheck(t, "valid", p, api.OK)
		b, _ := vxlan.Bytes(p)
		if !isPacket(b) {
			t.Errorf("% x is no packet", b)
		}
		wantRead(t, b, p)
	}
}

// P8.4, P8.2: what is read is exactly what is written: the bytes of a changed packet are read if they are those of a packet, and then written again.
func TestReadIsEncoded(t *testing.T) {
	random := rand.New(rand.NewSource(4))
	seen := map[bool]int{}
	for range 100000 {
		b, _ := vxlan.Bytes(validPacket(random))
		for range 1 + random.Intn(2) {
			b[random.Intn(len(b))] = []byte{0, 1, 2, 6, 8, 17, 255, byte(random.Intn(256))}[random.Intn(8)]
		}
		if random.Intn(2) == 0 {
			sum(b)
		}
		switch random.Intn(12) {
		case 0:
			b = append(b, make([]byte, random.Intn(9))...)
		case 1:
			b = b[:len(b)-random.Intn(60)%len(b)]
		}
		is := isPacket(b)
		seen[is]++
		p, fault := vxlan.Read(b)
		if (fault == api.Fault{}) != is {
			t.Errorf("Read(% x) = %+v, %v", b, p, fault)
		}
		if !is {
			continue
		}
		if back, err := vxlan.Bytes(p); !bytes.Equal(back, b) || err != api.OK {
			t.Errorf("% x is read as %+v and written as % x", b, p, back)
		}
	}
	if seen[true] < 10000 || seen[false] < 10000 {
		t.Errorf("the test has %d packets and %d others", seen[true], seen[false])
	}
}

// P1, P2, P8.2: any bytes are read, the same each time; a fault comes without a packet, one of layer 7 with a position in the frame.
func TestAnyBytes(t *testing.T) {
	random := rand.New(rand.NewSource(5))
	for range 50000 {
		b := make([]byte, random.Intn(100))
		random.Read(b)
		if len(b) >= 36 && random.Intn(4) > 0 {
			b[9], b[22], b[23] = 17, 0x12, 0xb5
		}
		if len(b) >= 50 {
			copy(b[48:], []string{"\x88\xb5", "\x08\x06", "\x08\x00", "  "}[random.Intn(4)])
		}
		p, fault := vxlan.Read(b)
		again, faultAgain := vxlan.Read(b)
		if p != again || fault != faultAgain {
			t.Errorf("Read(% x) = %+v, %v, then %+v, %v", b, p, fault, again, faultAgain)
		}
		if fault.Err != api.OK && p != (api.Packet{}) || (fault.Err == api.OK) != isPacket(b) {
			t.Errorf("Read(% x) = %+v, %v", b, p, fault)
		}
		if fault.At < 0 || fault.At > len(b) {
			t.Errorf("Read(% x): the fault is at %d", b, fault.At)
		}
		vxlan.Hash(b)
	}
}

// P1, P2, P8.1, P8.3: any packet is checked, the same each time, and is encoded if it is accepted; any frame has an entropy.
func TestAnyPacket(t *testing.T) {
	random := rand.New(rand.NewSource(6))
	accepted := 0
	for range 50000 {
		p := validPacket(random)
		number := int(random.Uint64() >> random.Intn(64))
		switch random.Intn(12) {
		case 0:
			p.TTL = number
		case 1:
			p.Entropy = number
		case 2:
			p.VNI = uint32(number)
		case 3:
			p.Mark = uint32(number)
		case 4:
			p.Inner.Kind = number
		case 5:
			p.Inner.Src = api.MAC(number)
		case 6:
			p.Inner.IP.Proto = number
		case 7:
			p.Inner.IP.DstPort = -number
		}
		err := vxlan.Check(p)
		wantCheck(t, "any", p, err)
		if b, _ := vxlan.Bytes(p); err == api.OK {
			accepted++
			wantRead(t, b, p)
		}
		entropy := vxlan.Entropy(p.Inner)
		if entropy != vxlan.Entropy(p.Inner) || entropy < 49152 || entropy > 65535 {
			t.Errorf("Entropy(%+v) = %d", p.Inner, entropy)
		}
	}
	if accepted < 10000 || accepted > 45000 {
		t.Errorf("%d packets are accepted", accepted)
	}
}
