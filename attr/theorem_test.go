package attr_test

import (
	"bytes"
	"math/rand"
	"slices"
	"testing"

	"leafmesh/api"
	"leafmesh/attr"
)

// someNumbers returns up to most numbers.
func someNumbers[N ~uint32](random *rand.Rand, most int) []N {
	list := make([]N, random.Intn(most+1))
	for i := range list {
		list[i] = N(random.Uint32())
	}
	return list
}

// someAttrs returns attributes that Check accepts, each with or without the fields that may be absent.
func someAttrs(random *rand.Rand) api.Attrs {
	a := api.Attrs{
		Origin:   random.Intn(3),
		Path:     someNumbers[uint32](random, 32),
		Next:     api.IP(random.Uint32()),
		Clusters: someNumbers[api.IP](random, 16),
		Comms:    make([]api.Comm, random.Intn(65)),
	}
	for i := range a.Comms {
		random.Read(a.Comms[i][:])
	}
	if random.Intn(2) == 0 {
		a.HasMed, a.Med = true, random.Uint32()
	}
	if random.Intn(2) == 0 {
		a.HasPref, a.Pref = true, random.Uint32()
	}
	if random.Intn(2) == 0 {
		a.HasOriginator, a.Originator = true, api.IP(random.Uint32())
	}
	if random.Intn(2) == 0 {
		a.Tunnel = api.Tunnel{Kind: 6, Label: random.Uint32() >> 8, Root: api.IP(random.Uint32())}
		if random.Intn(2) == 0 {
			a.Tunnel.Kind, a.Tunnel.Group = 3, api.IP(random.Uint32())
		}
	}
	return a
}

// someRoutes returns routes of all kinds, from least up to 20 more.
func someRoutes(random *rand.Rand, least int) []api.NLRI {
	list := make([]api.NLRI, least+random.Intn(21))
	for i := range list {
		list[i] = []api.NLRI{floodRoute, autoRoute, macRoute, segmentRoute, prefixRoute}[random.Intn(5)]
		list[i].RD = random.Uint64()
	}
	return list
}

// someCode returns attributes with announced routes, or routes without attributes.
func someCode(random *rand.Rand) code {
	if random.Intn(4) == 0 {
		return code{name: "withdrawn", unreach: someRoutes(random, 0)}
	}
	return code{name: "announced", a: someAttrs(random), reach: someRoutes(random, 1), unreach: someRoutes(random, 0)}
}

// split returns the attributes that Bytes has written, one by one.
func split(b []byte) [][]byte {
	var list [][]byte
	for len(b) > 0 {
		end := 3 + int(b[2])
		if b[0]&0x10 != 0 {
			end = 4 + int(b[2])<<8 + int(b[3])
		}
		list, b = append(list, b[:end]), b[end:]
	}
	return list
}

// P5.4: what was encoded is read, as it was.
func TestEncodedIsRead(t *testing.T) {
	random := rand.New(rand.NewSource(1))
	for range 2000 {
		x := someCode(random)
		b, err := attr.Bytes(x.a, x.reach, x.unreach)
		if err != api.OK {
			t.Errorf("Bytes(%+v) = %v", x, err)
		}
		wantRead(t, x.name, b, x)
	}
	for _, c := range valid {
		x := code{reach: flood}
		c.set(&x.a)
		b, _ := attr.Bytes(x.a, x.reach, x.unreach)
		wantRead(t, c.name, b, x)
	}
}

// P5.2: attributes stand in the order of their codes, and have a long length exactly if they need it.
func TestEncodedInOrder(t *testing.T) {
	random := rand.New(rand.NewSource(2))
	for range 500 {
		x := someCode(random)
		b, _ := attr.Bytes(x.a, x.reach, x.unreach)
		last := byte(0)
		for _, part := range split(b) {
			isLong := part[0]&0x10 != 0
			if part[1] <= last || isLong && len(part) < 4+256 || !isLong && len(part) > 3+255 {
				t.Errorf("% x behind the code %d in % x", part, last, b)
			}
			last = part[1]
		}
	}
}

// P5.5: neither the order of attributes matters nor what is skipped among them.
func TestOrderAndSkipped(t *testing.T) {
	random := rand.New(rand.NewSource(3))
	for range 1000 {
		x := someCode(random)
		b, _ := attr.Bytes(x.a, x.reach, x.unreach)
		parts := split(b)
		for range random.Intn(4) {
			value := make([]byte, random.Intn(300))
			random.Read(value)
			flags := 0x80 | byte(random.Intn(128))
			if len(value) > 255 {
				flags |= 0x10
			}
			parts = append(parts, piece(flags, []byte{0, 3, 6, 7, 8, 11, 13, 17, 21, 23, 255}[random.Intn(11)], value))
		}
		random.Shuffle(len(parts), func(i, j int) { parts[i], parts[j] = parts[j], parts[i] })
		wantRead(t, x.name, slices.Concat(parts...), x)
	}
}

// P5.5: without announced routes the order of other attributes does not matter either.
func TestOrderWithoutRoutes(t *testing.T) {
	random := rand.New(rand.NewSource(4))
	for range 500 {
		x := someCode(random)
		b, _ := attr.Bytes(x.a, x.reach, x.unreach)
		parts := slices.DeleteFunc(split(b), func(part []byte) bool { return part[1] == 14 })
		random.Shuffle(len(parts), func(i, j int) { parts[i], parts[j] = parts[j], parts[i] })
		wantRead(t, x.name, slices.Concat(parts...), code{unreach: x.unreach})
	}
}

// changed returns the bytes of attributes after some changes.
func changed(random *rand.Rand) []byte {
	x := someCode(random)
	b, _ := attr.Bytes(x.a, x.reach[:min(2, len(x.reach))], x.unreach[:min(1, len(x.unreach))])
	for range random.Intn(4) {
		i := random.Intn(len(b))
		switch random.Intn(4) {
		case 0:
			b[i] = []byte{0, 1, 2, 3, 4, 6, 0x10, 0x20, 0x40, 0x80, 0xc0, 0xff}[random.Intn(12)]
		case 1:
			b = slices.Delete(b, i, i+1)
		case 2:
			b = slices.Insert(b, i, byte(random.Intn(256)))
		case 3:
			parts := split(unbroken(b))
			b = append(b, parts[random.Intn(len(parts))]...)
		}
		if len(b) == 0 {
			return b
		}
	}
	return b
}

// unbroken returns bytes if they are attributes that are complete, and otherwise one that is.
func unbroken(b []byte) []byte {
	if _, _, _, fault := attr.Read(b); fault.Err == api.OK && len(b) > 0 {
		return b
	}
	return []byte{0x80, 99, 1, 0}
}

// P1, P2, P5.3: any bytes are read, the same each time; what is read without a fault is valid and can be written and read again, and with a fault there is nothing else, and it is within the bytes.
func TestAnyBytes(t *testing.T) {
	random := rand.New(rand.NewSource(5))
	seen := map[api.Errno]int{}
	for range 20000 {
		b := changed(random)
		a, reach, unreach, fault := attr.Read(b)
		again, reachAgain, unreachAgain, faultAgain := attr.Read(bytes.Clone(b))
		if !sameAttrs(a, again) || !slices.Equal(reach, reachAgain) || !slices.Equal(unreach, unreachAgain) || fault != faultAgain {
			t.Errorf("Read(% x) = %+v, %+v, %+v, %v, then %+v, %+v, %+v, %v", b, a, reach, unreach, fault, again, reachAgain, unreachAgain, faultAgain)
		}
		seen[fault.Err]++
		if fault.Err != api.OK {
			wantFault(t, "any", b, fault.Err, min(max(fault.At, 0), len(b)))
			continue
		}
		back, err := attr.Bytes(a, reach, unreach)
		if err != api.OK {
			t.Errorf("Bytes of what % x says: %v", b, err)
		}
		wantRead(t, "written again", back, code{a: a, reach: reach, unreach: unreach})
	}
	for _, err := range []api.Errno{api.OK, api.ErrShort, api.ErrAttr, api.ErrDouble, api.ErrForm} {
		if seen[err] < 100 {
			t.Errorf("the test has only %d cases with %v", seen[err], err)
		}
	}
	if len(seen) != 5 {
		t.Errorf("errors that Read does not have: %v", seen)
	}
}

// The examples of the chapter.
func TestExamples(t *testing.T) {
	wantBytes(t, code{"zero", api.Attrs{}, nil, nil, "80 0f 03 00 19 46"})
	wantBytes(t, code{"announced", api.Attrs{Next: 0x0aff0001}, flood, nil,
		"40 01 01 00  40 02 00  80 0e 1c 00 19 46 04 0a ff 00 01 00" + floodText})
	wantFault(t, "short", unhex(t, "40 01 01"), api.ErrShort, 0)
	wantFault(t, "unknown", unhex(t, "40 63 00"), api.ErrAttr, 0)
	wantFault(t, "flags", unhex(t, "80 01 01 00"), api.ErrAttr, 0)
	wantFault(t, "value", unhex(t, "40 01 01 03"), api.ErrForm, 0)
	wantFault(t, "twice", unhex(t, "40 01 01 00  40 01 01 00"), api.ErrDouble, 4)
	wantRead(t, "once", unhex(t, "40 01 01 00"), code{})
}
