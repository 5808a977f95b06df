package nlri_test

import (
	"bytes"
	"math"
	"math/rand"
	"slices"
	"testing"

	"leafmesh/api"
	"leafmesh/nlri"
)

// someRoute returns a route with few different values in its fields, so that its key often equals that of another one, and often differs from it in one field. It may be of no kind.
func someRoute(random *rand.Rand) api.NLRI {
	n := api.NLRI{Kind: random.Intn(7), RD: 5, ESI: api.ESI{1, 9: 2}, HasIP: true, IP: 1}
	for range random.Intn(3) {
		switch random.Intn(11) {
		case 0:
			n.Kind = random.Intn(9) - 1
		case 1:
			n.RD = uint64(random.Intn(2)) << 63
		case 2:
			n.ESI[random.Intn(10)] = byte(random.Intn(2)) * 0x80
		case 3:
			n.Tag = uint32(random.Intn(2)) << 31
		case 4:
			n.MAC = api.MAC(random.Intn(3)) << 47
		case 5:
			n.HasIP = false
		case 6:
			n.IP = api.IP(random.Intn(3)) << 30
		case 7:
			n.Prefix = api.Prefix{IP: api.IP(random.Intn(3)) << 30, Len: random.Intn(4) - 1}
		case 8:
			n.Gateway = api.IP(random.Intn(3)) << 30
		case 9:
			n.Label = uint32(random.Intn(3)) << 23
		case 10:
			n.Label2 = uint32(random.Intn(3)) << 23
		}
	}
	return n
}

// validRoute returns a route that Check accepts, with any values in the fields that its kind uses.
func validRoute(random *rand.Rand) api.NLRI {
	n := api.NLRI{Kind: 1 + random.Intn(5), RD: random.Uint64()}
	if n.Kind != 3 {
		random.Read(n.ESI[:])
	}
	if n.Kind != 4 {
		n.Tag = random.Uint32()
	}
	if n.Kind == 3 || n.Kind == 4 || n.Kind == 2 && random.Intn(2) == 0 {
		n.HasIP, n.IP = true, api.IP(random.Uint32())
	}
	if n.Kind == 1 || n.Kind == 2 || n.Kind == 5 {
		n.Label = random.Uint32() >> 8
	}
	if n.Kind == 2 {
		n.MAC = api.MAC(random.Uint64() >> 16)
		n.Label2 = random.Uint32() >> 8 * uint32(random.Intn(2))
	}
	if n.Kind == 5 {
		length := random.Intn(33)
		n.Prefix = api.Prefix{IP: api.IP(random.Uint32()) & (math.MaxUint32 << (32 - length)), Len: length}
		n.Gateway = api.IP(random.Uint32())
	}
	return n
}

// isRoute reports whether bytes, which do not end within it, are an encoded route, as the table of the chapter says it.
func isRoute(b []byte) bool {
	value := b[2:]
	switch kind, size := b[0], len(value); {
	case kind == 1:
		return size == 25
	case kind == 2 && (size == 33 || size == 36):
		return value[22] == 48 && value[29] == 0 && (size == 33 || !bytes.Equal(value[33:], []byte{0, 0, 0}))
	case kind == 2 && (size == 37 || size == 40):
		return value[22] == 48 && value[29] == 32 && (size == 37 || !bytes.Equal(value[37:], []byte{0, 0, 0}))
	case kind == 3:
		return size == 17 && value[12] == 32
	case kind == 4:
		return size == 23 && value[18] == 32
	case kind == 5 && size == 34:
		for i := range 32 {
			if i >= int(value[22]) && value[23+i/8]>>(7-i%8)&1 != 0 {
				return false
			}
		}
		return value[22] <= 32
	}
	return false
}

// P4.5: routes are read as they were encoded, in their order.
func TestEncodedIsRead(t *testing.T) {
	random := rand.New(rand.NewSource(1))
	for range 300 {
		var b []byte
		var want []api.NLRI
		for range random.Intn(30) {
			n := validRoute(random)
			wantCheck(t, "valid", n, api.OK)
			part, _ := nlri.Bytes(n)
			b, want = append(b, part...), append(want, n)
		}
		wantRead(t, b, want...)
	}
}

// P1, P4.1, P4.5: a route is encoded if Check accepts it, and is then read back.
func TestAcceptedIsRead(t *testing.T) {
	random := rand.New(rand.NewSource(2))
	accepted := 0
	for range 20000 {
		n := someRoute(random)
		err := nlri.Check(n)
		wantCheck(t, "any", n, err)
		if b, _ := nlri.Bytes(n); err == api.OK {
			accepted++
			wantRead(t, b, n)
		}
	}
	if accepted < 1000 {
		t.Errorf("the test has only %d routes that are accepted", accepted)
	}
}

// P4.2, P4.5: what is read is exactly what is written: the bytes of a changed route are read if they are those of a route, and then written again.
func TestReadIsEncoded(t *testing.T) {
	random := rand.New(rand.NewSource(3))
	seen := map[bool]int{}
	for range 50000 {
		b, _ := nlri.Bytes(validRoute(random))
		for range 1 + random.Intn(2) {
			b[2+random.Intn(len(b)-2)] = []byte{0, 1, 24, 32, 48, 128, 255, byte(random.Intn(256))}[random.Intn(8)]
		}
		switch random.Intn(8) {
		case 0:
			b = append(b, 0, 0, byte(random.Intn(2)))
		case 1:
			b = b[:len(b)-random.Intn(7)]
		case 2:
			b[0] = byte(1 + random.Intn(5))
		}
		b[1] = byte(len(b) - 2)
		is := isRoute(b)
		seen[is]++
		if !is {
			wantFault(t, b, api.ErrForm, 0)
			continue
		}
		list, fault := nlri.Read(b)
		if len(list) != 1 || fault != (api.Fault{}) {
			t.Errorf("Read(% x) = %+v, %v", b, list, fault)
			continue
		}
		if back, err := nlri.Bytes(list[0]); !bytes.Equal(back, b) || err != api.OK {
			t.Errorf("% x is read as %+v and written as % x", b, list[0], back)
		}
	}
	if seen[true] < 5000 || seen[false] < 5000 {
		t.Errorf("the test has %d routes and %d others", seen[true], seen[false])
	}
}

// P1, P2, P4.2: any bytes are read, the same each time; what is read is written as it was.
func TestAnyBytes(t *testing.T) {
	random := rand.New(rand.NewSource(4))
	for range 5000 {
		b := make([]byte, random.Intn(120))
		random.Read(b)
		for i := 0; i+1 < len(b); i += 2 + int(b[i+1]) {
			b[i], b[i+1] = byte(random.Intn(7)), []byte{17, 23, 25, 33, 34, 36, 37, 40}[random.Intn(8)]
		}
		list, fault := nlri.Read(b)
		again, faultAgain := nlri.Read(b)
		if !slices.Equal(list, again) || fault != faultAgain {
			t.Errorf("Read(% x) = %+v, %v, then %+v, %v", b, list, fault, again, faultAgain)
		}
		if fault.Err != api.OK {
			continue
		}
		var back []byte
		for _, n := range list {
			part, _ := nlri.Bytes(n)
			back = append(back, part...)
		}
		if !bytes.Equal(back, b) {
			t.Errorf("% x is written as % x", b, back)
		}
	}
}

// P4.6: keys are ordered totally, and equal keys are those that compare as equal; the key of a key is the key itself.
func TestOrder(t *testing.T) {
	random := rand.New(rand.NewSource(5))
	list := []api.NLRI{{}}
	for len(list) < 120 {
		list = append(list, someRoute(random))
	}
	for _, a := range list {
		if nlri.Key(nlri.Key(a)) != nlri.Key(a) {
			t.Errorf("the key of the key of %+v is another one", a)
		}
		for _, b := range list {
			order := nlri.Compare(a, b)
			if order < -1 || order > 1 || order != -nlri.Compare(b, a) || order != nlri.Compare(nlri.Key(a), nlri.Key(b)) {
				t.Errorf("Compare(%+v, %+v) = %d, the other way round %d", a, b, order, nlri.Compare(b, a))
			}
			if (order == 0) != (nlri.Key(a) == nlri.Key(b)) {
				t.Errorf("Compare(%+v, %+v) = %d", a, b, order)
			}
			for _, c := range list {
				if order <= 0 && nlri.Compare(b, c) <= 0 && nlri.Compare(a, c) > 0 {
					t.Errorf("not in order: %+v, %+v, %+v", a, b, c)
				}
			}
		}
	}
}

// P4.4: the parts of a distinguisher are those of which it was made, and only one of the type 1 has any.
func TestDistinguishers(t *testing.T) {
	random := rand.New(rand.NewSource(6))
	for range 2000 {
		ip, n := api.IP(random.Uint32()), uint16(random.Uint32())
		if gotIP, gotN, is := nlri.RDOf(nlri.RD(ip, n)); gotIP != ip || gotN != n || !is {
			t.Errorf("RDOf(RD(%#x, %#x)) = %#x, %#x, %v", ip, n, gotIP, gotN, is)
		}
		rd := random.Uint64() >> random.Intn(64)
		if ip, n, is := nlri.RDOf(rd); is && nlri.RD(ip, n) != rd || is != (rd/(1<<48) == 1) {
			t.Errorf("RDOf(%#x) = %#x, %#x, %v", rd, ip, n, is)
		}
	}
}
