package packet_test

import (
	"bytes"
	"slices"
	"testing"

	"leafmesh/api"
	"leafmesh/packet"
)

// P7.3: bytes that end before the type does are short, whatever they are.
func TestReadShort(t *testing.T) {
	wantFault(t, nil, api.ErrShort, 0)
	wantFault(t, []byte{}, api.ErrShort, 0)
	for n := range 14 {
		wantFault(t, make([]byte, n), api.ErrShort, n)
		wantFault(t, bytes.Repeat([]byte{0xff}, n), api.ErrShort, n)
		for _, c := range codes {
			wantFault(t, unhex(t, c.text)[:n], api.ErrShort, n)
		}
	}
}

// P7.3: only the types of the table are known; that comes before the number of bytes.
func TestReadTypes(t *testing.T) {
	for kind := range 1 << 16 {
		if kind == 0x88b5 || kind == 0x0806 || kind == 0x0800 {
			continue
		}
		for _, n := range []int{14, 22, 42, 50, 51} {
			b := make([]byte, n)
			b[12], b[13] = byte(kind>>8), byte(kind)
			wantFault(t, b, api.ErrType, 12)
		}
	}
}

// P7.3: a frame that ends too early is short, and one that goes on too long is long, at the bytes that it has.
func TestReadSizes(t *testing.T) {
	for _, c := range codes {
		b := unhex(t, c.text)
		for n := 14; n < len(b); n++ {
			wantFault(t, b[:n], api.ErrShort, n)
		}
		for n := 1; n < 60; n++ {
			wantFault(t, append(slices.Clone(b), make([]byte, n)...), api.ErrLong, len(b))
		}
		wantFault(t, append(slices.Clone(b), b...), api.ErrLong, len(b))
		wantFault(t, append(slices.Clone(b), make([]byte, 70000)...), api.ErrLong, len(b))
	}
}

// P7.3: the protocol decides how many bytes a frame of FrameIP has, from the moment it is there.
func TestReadProtocols(t *testing.T) {
	for proto := range 256 {
		size := 42
		if proto == 6 || proto == 17 {
			size = 50
		}
		b := make([]byte, 70)
		b[12], b[13], b[23] = 8, 0, byte(proto)
		for n := 14; n < size; n++ {
			wantFault(t, b[:n], api.ErrShort, n)
		}
		wantFault(t, b[:size], api.ErrForm, 0)
		for n := size + 1; n <= len(b); n++ {
			wantFault(t, b[:n], api.ErrLong, size)
		}
	}
}

// P7.3, R1: the sizes are checked before the form, and the type before the sizes.
func TestReadOrder(t *testing.T) {
	for _, c := range codes {
		b := unhex(t, c.text)
		b[6] |= 1
		wantFault(t, b, api.ErrForm, 0)
		wantFault(t, b[:len(b)-1], api.ErrShort, len(b)-1)
		wantFault(t, append(slices.Clone(b), 0), api.ErrLong, len(b))
		b[12] = 7
		wantFault(t, b, api.ErrType, 12)
		wantFault(t, b[:len(b)-1], api.ErrType, 12)
		wantFault(t, append(slices.Clone(b), 0), api.ErrType, 12)
		wantFault(t, b[:13], api.ErrShort, 13)
	}
}

// P7.3: the source of a frame is not a group; the destination is any address.
func TestReadAddresses(t *testing.T) {
	for _, c := range codes {
		for first := range 256 {
			b := unhex(t, c.text)
			f := c.f
			b[0] = byte(first)
			f.Dst = f.Dst&0xffffffffff | api.MAC(first)<<40
			wantRead(t, b, f)
			b[6] = byte(first)
			f.Src = f.Src&0xffffffffff | api.MAC(first)<<40
			if first%2 == 1 {
				wantFault(t, b, api.ErrForm, 0)
			} else {
				wantRead(t, b, f)
			}
		}
	}
}

// wantConstant checks that a byte of an encoded frame has one value only, one of several.
func wantConstant(t *testing.T, code []byte, at int, values ...byte) {
	t.Helper()
	for value := range 256 {
		b := slices.Clone(code)
		b[at] = byte(value)
		if slices.Contains(values, byte(value)) {
			if _, fault := packet.Read(b); fault != (api.Fault{}) {
				t.Errorf("Read(% x): %v", b, fault)
			}
			continue
		}
		wantFault(t, b, api.ErrForm, 0)
	}
}

// P7.3: an ARP message begins as the table says, and its Op is 1 or 2.
func TestReadARP(t *testing.T) {
	for _, c := range codes {
		if c.f.Kind != 1 {
			continue
		}
		b := unhex(t, c.text)
		for i, value := range []byte{0, 1, 8, 0, 6, 4, 0} {
			wantConstant(t, b, 14+i, value)
		}
		wantConstant(t, b, 21, 1, 2)
	}
}

// P7.3: behind the ports are the number 16 and two zero bytes.
func TestReadPorts(t *testing.T) {
	for _, c := range codes {
		if !packet.Ported(c.f.IP.Proto) {
			continue
		}
		b := unhex(t, c.text)
		for i, value := range []byte{0, 16, 0, 0} {
			wantConstant(t, b, 38+i, value)
		}
	}
}

// P7.3, P7.5: a change of one byte of the IPv4 header is rejected, whichever value it gets.
func TestReadHeader(t *testing.T) {
	for _, c := range codes {
		if c.f.Kind != 2 {
			continue
		}
		code := unhex(t, c.text)
		for at := 14; at < 34; at++ {
			for value := range 256 {
				b := slices.Clone(code)
				if b[at] == byte(value) {
					continue
				}
				b[at] = byte(value)
				switch ports := packet.Ported(value); {
				case at == 23 && ports && len(b) == 42:
					wantFault(t, b, api.ErrShort, 42)
				case at == 23 && !ports && len(b) == 50:
					wantFault(t, b, api.ErrLong, 42)
				default:
					wantFault(t, b, api.ErrForm, 0)
				}
			}
		}
	}
}

// P7.3: a header with the right checksum is rejected if its constant fields, or the number of bytes, are others.
func TestReadConstants(t *testing.T) {
	for _, c := range codes {
		if c.f.Kind != 2 {
			continue
		}
		code := unhex(t, c.text)
		for at := range 8 {
			for value := range 256 {
				b := slices.Clone(code)
				if b[14+at] == byte(value) {
					continue
				}
				b[14+at], b[24], b[25] = byte(value), 0, 0
				sum := packet.Sum(b[14:34])
				b[24], b[25] = byte(sum>>8), byte(sum)
				wantFault(t, b, api.ErrForm, 0)
			}
		}
	}
}

// P7.3: a checksum of 0xffff, which the sum allows in place of 0, is not what Bytes writes.
func TestReadOtherZero(t *testing.T) {
	for _, c := range codes {
		b := unhex(t, c.text)
		if c.f.Kind == 2 && b[24] == 0 && b[25] == 0 {
			b[24], b[25] = 0xff, 0xff
			if packet.Sum(b[14:34]) != 0 {
				t.Error("the sum is another one")
			}
			wantFault(t, b, api.ErrForm, 0)
			return
		}
	}
	t.Error("no code has a checksum of 0")
}

// R4: bytes that are read are not changed, and results share no memory with those of another call.
func TestSharesNothing(t *testing.T) {
	for _, c := range codes {
		want := unhex(t, c.text)
		memory := append(unhex(t, c.text), 7, 7, 7, 7)
		packet.Read(memory[:len(want)])
		packet.Sum(memory[:len(want)-1])
		if !bytes.Equal(memory, append(slices.Clone(want), 7, 7, 7, 7)) {
			t.Errorf("the arguments are changed to % x", memory)
		}
		out, _ := packet.Bytes(c.f)
		again, _ := packet.Bytes(c.f)
		clear(out[:cap(out)])
		if !bytes.Equal(again, want) {
			t.Errorf("Bytes shares memory: % x", again)
		}
	}
}
