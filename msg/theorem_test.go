package msg_test

import (
	"bytes"
	"math/rand"
	"slices"
	"testing"

	"leafmesh/api"
	"leafmesh/msg"
)

// someNumbers returns up to most numbers.
func someNumbers[N ~uint32](random *rand.Rand, most int) []N {
	list := make([]N, random.Intn(most+1))
	for i := range list {
		list[i] = N(random.Uint32())
	}
	return list
}

// someOpen returns the content of an OPEN message that Check accepts.
func someOpen(random *rand.Rand) api.Open {
	o := api.Open{
		AS:        random.Uint32() >> random.Intn(32),
		Hold:      3 + random.Intn(65533),
		ID:        api.IP(random.Uint32()),
		Restarted: random.Intn(2) == 0,
	}
	if random.Intn(3) == 0 {
		o.Hold = 0
	}
	if random.Intn(2) == 0 {
		o.Restart = random.Intn(4096)
	}
	return o
}

// someAttrs returns attributes that layer 5 accepts.
func someAttrs(random *rand.Rand) api.Attrs {
	a := api.Attrs{
		Origin:   random.Intn(3),
		Path:     someNumbers[uint32](random, 32),
		Next:     api.IP(random.Uint32()),
		Clusters: someNumbers[api.IP](random, 16),
		Comms:    make([]api.Comm, random.Intn(65)),
	}
	for i := range a.Comms {
		random.Read(a.Comms[i][:])
	}
	if random.Intn(2) == 0 {
		a.HasMed, a.Med = true, random.Uint32()
		a.HasPref, a.Pref = true, random.Uint32()
	}
	if random.Intn(2) == 0 {
		a.HasOriginator, a.Originator = true, api.IP(random.Uint32())
		a.Tunnel = api.Tunnel{Kind: 6, Label: random.Uint32() >> 8, Root: api.IP(random.Uint32())}
	}
	return a
}

// someRoutes returns routes of several kinds, from least up to 20 more.
func someRoutes(random *rand.Rand, least int) []api.NLRI {
	list := make([]api.NLRI, least+random.Intn(21))
	for i := range list {
		list[i] = []api.NLRI{floodRoute, autoRoute, segmentRoute, prefixRoute}[random.Intn(4)]
		list[i].RD = random.Uint64()
	}
	return list
}

// someMsg returns a message that Check accepts.
func someMsg(random *rand.Rand) api.Msg {
	switch m := (api.Msg{Kind: 1 + random.Intn(6)}); m.Kind {
	case api.MsgOpen:
		m.Open = someOpen(random)
		return m
	case api.MsgNotice:
		m.Code, m.Sub = random.Intn(256), random.Intn(256)
		return m
	case api.MsgAlive, api.MsgRefresh:
		return m
	case api.MsgUpdate:
		m.A, m.Reach, m.Unreach = someAttrs(random), someRoutes(random, 1), someRoutes(random, 0)
		return m
	}
	return api.Msg{Kind: api.MsgUpdate, Unreach: someRoutes(random, 0)}
}

// someStream returns messages and their bytes, one after the other.
func someStream(t *testing.T, random *rand.Rand, most int) ([]api.Msg, []byte) {
	t.Helper()
	var list []api.Msg
	var stream []byte
	for range random.Intn(most + 1) {
		m := someMsg(random)
		b, err := msg.Bytes(m)
		if err != api.OK || msg.Check(m) != api.OK {
			t.Errorf("Bytes(%+v) = %v", m, err)
		}
		list, stream = append(list, m), append(stream, b...)
	}
	return list, stream
}

// P3, P6.4: the messages that were encoded are read, in their order.
func TestEncodedIsSplit(t *testing.T) {
	random := rand.New(rand.NewSource(1))
	for range 1000 {
		list, stream := someStream(t, random, 8)
		wantSplit(t, "stream", stream, nil, list...)
	}
}

// P6.1, P6.4: what is encoded begins with the marker, has its size and its kind in its head, and at most the greatest size.
func TestEncodedHead(t *testing.T) {
	random := rand.New(rand.NewSource(2))
	for range 1000 {
		m := someMsg(random)
		b, _ := msg.Bytes(m)
		if len(b) < 19 || len(b) > 4096 || !bytes.Equal(b, message(byte(m.Kind), b[19:])) {
			t.Errorf("Bytes(%+v) = % x", m, b)
		}
	}
}

// P6.4: messages of a session in which each kind occurs, many times.
func TestLongStream(t *testing.T) {
	var list []api.Msg
	var stream []byte
	for range 500 {
		for _, c := range codes {
			list, stream = append(list, c.m), append(stream, c.bytesOf(t)...)
		}
	}
	wantSplit(t, "long", stream, nil, list...)
}

// splitPieces splits a stream piece by piece, with pieces of up to most bytes; each is appended to the rest of those before.
func splitPieces(random *rand.Rand, stream []byte, most int) (all []api.Msg, rest []byte, f api.Fault) {
	read := 0
	for len(stream) > 0 {
		n := min(len(stream), 1+random.Intn(most))
		rest = append(rest, stream[:n]...)
		read += n
		stream = stream[n:]
		from := read - len(rest)
		var list []api.Msg
		list, rest, f = msg.Split(rest)
		all = append(all, list...)
		if f.Err != api.OK {
			f.At += from
			return all, nil, f
		}
	}
	return all, rest, f
}

// changed returns a stream with some changes, which may be cut off anywhere.
func changed(random *rand.Rand, stream []byte) []byte {
	b := bytes.Clone(stream)
	for range random.Intn(4) {
		if len(b) == 0 {
			return b
		}
		i := random.Intn(len(b))
		switch random.Intn(5) {
		case 0:
			b[i] = []byte{0, 1, 2, 3, 4, 5, 6, 0x13, 0x19, 0x40, 0x41, 0x46, 0x80, 0xff}[random.Intn(14)]
		case 1:
			b = slices.Delete(b, i, i+1)
		case 2:
			b = slices.Insert(b, i, byte(random.Intn(256)))
		case 3:
			b = b[:i]
		case 4:
			b = append(b, message(byte(random.Intn(7)), b[i:min(len(b), i+random.Intn(12))])...)
		}
	}
	return b
}

// P6.5: a stream that is split piece by piece has the same messages as one that is split at once, and the same rest or the same fault.
func TestSplitPieces(t *testing.T) {
	random := rand.New(rand.NewSource(3))
	seen := map[api.Errno]int{}
	for range 3000 {
		list, stream := someStream(t, random, 6)
		l, rest, fault := splitPieces(random, stream, 1+random.Intn(60))
		if !sameAll(l, list) || len(rest) != 0 || fault != (api.Fault{}) {
			t.Errorf("% x in pieces: %+v, % x, %v, want %+v", stream, l, rest, fault, list)
		}
		b := changed(random, stream)
		want, wantRest, wantFault := msg.Split(b)
		l, rest, fault = splitPieces(random, b, 1+random.Intn(60))
		if !sameAll(l, want) || !bytes.Equal(rest, wantRest) || fault != wantFault {
			t.Errorf("% x in pieces: %+v, % x, %v, want %+v, % x, %v", b, l, rest, fault, want, wantRest, wantFault)
		}
		seen[wantFault.Err]++
	}
	for _, err := range []api.Errno{api.OK, api.ErrForm, api.ErrLong, api.ErrType, api.ErrMark} {
		if seen[err] < 20 {
			t.Errorf("the test has only %d streams with %v", seen[err], err)
		}
	}
}

// P6.5: pieces of one byte each.
func TestSplitBytes(t *testing.T) {
	random := rand.New(rand.NewSource(4))
	for range 50 {
		list, stream := someStream(t, random, 4)
		l, rest, fault := splitPieces(random, stream, 1)
		if !sameAll(l, list) || len(rest) != 0 || fault != (api.Fault{}) {
			t.Errorf("% x byte by byte: %+v, % x, %v", stream, l, rest, fault)
		}
	}
}

// P1, P2, P3: any bytes are split, the same way each time; what is read is valid, and is read again when it is written.
func TestAnyBytes(t *testing.T) {
	random := rand.New(rand.NewSource(5))
	for range 10000 {
		_, stream := someStream(t, random, 3)
		b := changed(random, stream)
		if random.Intn(10) == 0 {
			b = make([]byte, random.Intn(100))
			random.Read(b)
		}
		l, rest, fault := msg.Split(b)
		again, restAgain, faultAgain := msg.Split(bytes.Clone(b))
		if !sameAll(l, again) || !bytes.Equal(rest, restAgain) || fault != faultAgain {
			t.Errorf("Split(% x) = %+v, % x, %v, then %+v, % x, %v", b, l, rest, fault, again, restAgain, faultAgain)
		}
		if fault.Err == api.OK && fault.At != 0 || fault.Err != api.OK && (len(rest) != 0 || fault.At < 0 || fault.At > len(b)-19) {
			t.Errorf("Split(% x) = % x, %v", b, rest, fault)
		}
		var back []byte
		for _, m := range l {
			part, err := msg.Bytes(m)
			if err != api.OK {
				t.Errorf("Bytes(%+v), a message of % x: %v", m, b, err)
			}
			back = append(back, part...)
		}
		wantSplit(t, "written again", back, nil, l...)
	}
}

// The examples of the chapter.
func TestExamples(t *testing.T) {
	for _, c := range []code{
		{"MsgAlive", api.Msg{Kind: api.MsgAlive}, "00 13 04"},
		{"End of RIB", api.Msg{Kind: api.MsgUpdate}, "00 1d 02 00 00 00 06 80 0f 03 00 19 46"},
		{"MsgOpen", openMsg(api.Open{AS: 65000, Hold: 90, ID: 0x0aff0001}),
			"00 2d 01 04 fd e8 00 5a 0a ff 00 01 10 02 0e 01 04 00 19 00 46 02 00 41 04 00 00 fd e8"},
		{"MsgNotice", api.Msg{Kind: api.MsgNotice, Code: 6, Sub: 4}, "00 15 03 06 04"},
		{"MsgRefresh", api.Msg{Kind: api.MsgRefresh}, "00 17 05 00 19 00 46"},
	} {
		wantBytes(t, c.name, c.m, c.bytesOf(t))
		wantSplit(t, c.name, c.bytesOf(t), nil, c.m)
	}
}
