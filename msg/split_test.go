package msg_test

import (
	"bytes"
	"slices"
	"testing"

	"leafmesh/api"
	"leafmesh/msg"
)

// message returns a message of a kind with a body; its size is that of all of it.
func message(kind byte, body []byte) []byte {
	size := 19 + len(body)
	return slices.Concat(bytes.Repeat([]byte{0xff}, 16), []byte{byte(size >> 8), byte(size), kind}, body)
}

// withSize returns a message with another size in its head.
func withSize(b []byte, size int) []byte {
	b = bytes.Clone(b)
	b[16], b[17] = byte(size>>8), byte(size)
	return b
}

// same reports whether messages are equal; it does not matter whether a list without elements is nil.
func same(m, n api.Msg) bool {
	a, b := m.A, n.A
	return m.Kind == n.Kind && m.Open == n.Open && m.Code == n.Code && m.Sub == n.Sub &&
		a.Origin == b.Origin && slices.Equal(a.Path, b.Path) && a.Next == b.Next &&
		a.HasMed == b.HasMed && a.Med == b.Med && a.HasPref == b.HasPref && a.Pref == b.Pref &&
		a.HasOriginator == b.HasOriginator && a.Originator == b.Originator &&
		slices.Equal(a.Clusters, b.Clusters) && slices.Equal(a.Comms, b.Comms) && a.Tunnel == b.Tunnel &&
		slices.Equal(m.Reach, n.Reach) && slices.Equal(m.Unreach, n.Unreach)
}

// sameAll reports whether lists of messages are equal.
func sameAll(l, k []api.Msg) bool {
	return slices.EqualFunc(l, k, same)
}

// wantSplit checks that bytes contain messages, and which bytes are left behind them.
func wantSplit(t *testing.T, name string, b []byte, rest []byte, want ...api.Msg) {
	t.Helper()
	l, r, fault := msg.Split(b)
	if !sameAll(l, want) || !bytes.Equal(r, rest) || fault != (api.Fault{}) {
		t.Errorf("%s: Split(% x) = %+v, % x, %v, want %+v, % x", name, b, l, r, fault, want, rest)
	}
}

// wantFault checks that bytes have a fault, which messages are before it, and that there is no rest.
func wantFault(t *testing.T, name string, b []byte, err api.Errno, at int, want ...api.Msg) {
	t.Helper()
	l, r, fault := msg.Split(b)
	if !sameAll(l, want) || len(r) != 0 || fault != (api.Fault{Err: err, At: at}) {
		t.Errorf("%s: Split(% x) = %+v, % x, %v, want %+v, %v at %d", name, b, l, r, fault, want, err, at)
	}
}

// wantFaultBehind checks that bytes have a fault at their start, also behind other messages and before others.
func wantFaultBehind(t *testing.T, name string, b []byte, err api.Errno) {
	t.Helper()
	wantFault(t, name, b, err, 0)
	alive, notice := message(4, nil), message(3, []byte{6, 4})
	aliveMsg, noticeMsg := api.Msg{Kind: 4}, api.Msg{Kind: 3, Code: 6, Sub: 4}
	wantFault(t, name, slices.Concat(alive, b), err, 19, aliveMsg)
	wantFault(t, name, slices.Concat(notice, alive, b), err, 40, noticeMsg, aliveMsg)
}

// P6.2: messages are read as they stand, one after the other; then nothing is left.
func TestSplit(t *testing.T) {
	wantSplit(t, "nil", nil, nil)
	wantSplit(t, "empty", []byte{}, nil)
	var all []byte
	var want []api.Msg
	for _, c := range slices.Concat(codes, codes) {
		b := c.bytesOf(t)
		wantSplit(t, c.name, b, nil, c.m)
		all, want = append(all, b...), append(want, c.m)
		wantSplit(t, "all up to "+c.name, all, nil, want...)
	}
}

// P6.2: the bytes of a message that is not complete are left, however many of them there are.
func TestSplitRest(t *testing.T) {
	alive := message(4, nil)
	for _, c := range codes {
		b := c.bytesOf(t)
		for n := range len(b) {
			wantSplit(t, c.name, b[:n], b[:n])
			wantSplit(t, "alive, "+c.name, slices.Concat(alive, b[:n]), b[:n], api.Msg{Kind: 4})
			wantSplit(t, c.name+" twice", slices.Concat(b, b[:n]), b[:n], c.m)
		}
	}
}

// P6.2: a message that is not complete may have any body, up to the greatest size.
func TestSplitRestOfAnyBody(t *testing.T) {
	for kind := byte(1); kind <= 5; kind++ {
		for _, n := range []int{1, 2, 100, 4076, 4077} {
			b := message(kind, bytes.Repeat([]byte{0xee}, n))
			wantSplit(t, "but one byte", b[:len(b)-1], b[:len(b)-1])
			wantSplit(t, "the head alone", b[:19], b[:19])
		}
	}
}

// P6.2: fewer bytes than a head are left, whatever they are.
func TestSplitShortRest(t *testing.T) {
	for n := range 19 {
		for _, value := range []byte{0, 1, 4, 0x7f, 0xff} {
			b := bytes.Repeat([]byte{value}, n)
			wantSplit(t, "short", b, b)
			wantSplit(t, "short behind another", slices.Concat(message(4, nil), b), b, api.Msg{Kind: 4})
		}
	}
}

// P6.2: the first 16 bytes of a message are 0xff, each of them.
func TestSplitMark(t *testing.T) {
	for _, c := range codes {
		for i := range 16 {
			for _, value := range []byte{0, 1, 0x7f, 0xef, 0xfe} {
				b := c.bytesOf(t)
				b[i] = value
				wantFaultBehind(t, c.name, b, api.ErrMark)
				wantFaultBehind(t, c.name+", the head alone", b[:19], api.ErrMark)
				wantSplit(t, c.name+", less than the head", b[:18], b[:18])
			}
		}
	}
}

// P6.2: the size of a message is from 19 to 4,096, and this is known as soon as the head is there.
func TestSplitSizes(t *testing.T) {
	for size := range 1 << 16 {
		b := withSize(message(4, nil), size)
		l, rest, fault := msg.Split(b)
		want, left := api.OK, 0
		switch {
		case size < 19 || size > 4096:
			want = api.ErrLong
		case size > 19:
			left = 19
		}
		if fault != (api.Fault{Err: want}) || len(rest) != left || (len(l) == 1) != (size == 19) {
			t.Errorf("the size %d: %d messages, %d bytes, %v", size, len(l), len(rest), fault)
		}
	}
	for _, size := range []int{0, 1, 18, 4097, 65535} {
		wantFaultBehind(t, "the head alone", withSize(message(2, nil), size), api.ErrLong)
		wantFaultBehind(t, "with a body", withSize(message(2, make([]byte, 5000)), size), api.ErrLong)
	}
}

// P6.2: a message may have the greatest size.
func TestSplitGreatest(t *testing.T) {
	m := api.Msg{Kind: 2, Unreach: mix(214, 0, 0, 0)}
	b, _ := msg.Bytes(m)
	if len(b) != 4096 {
		t.Fatalf("the test has a message of %d bytes", len(b))
	}
	wantSplit(t, "greatest", slices.Concat(b, b), nil, m, m)
	wantSplit(t, "greatest and incomplete", slices.Concat(b, b[:4095]), b[:4095], m)
	notice := message(3, append([]byte{1, 2}, make([]byte, 4075)...))
	wantSplit(t, "the greatest notice", notice, nil, api.Msg{Kind: 3, Code: 1, Sub: 2})
}

// P6.2: a message is of one of the five kinds, and this is known as soon as the head is there.
func TestSplitKinds(t *testing.T) {
	for kind := range 256 {
		b := message(byte(kind), make([]byte, 30))
		if kind >= 1 && kind <= 5 {
			wantSplit(t, "the head alone", b[:19], b[:19])
			continue
		}
		for _, n := range []int{19, 20, 48, 49} {
			wantFaultBehind(t, "kind", b[:n], api.ErrType)
		}
		wantFaultBehind(t, "without a body", message(byte(kind), nil), api.ErrType)
		wantSplit(t, "less than the head", b[:18], b[:18])
	}
}

// P6.2, R1: of the errors of one message the first one counts: mark, size, kind, body.
func TestSplitOrder(t *testing.T) {
	body := message(4, []byte{1})
	kind := slices.Clone(body)
	kind[18] = 6
	size := withSize(kind, 18)
	mark := slices.Clone(size)
	mark[3] = 0
	wantFaultBehind(t, "body", body, api.ErrForm)
	wantFaultBehind(t, "kind and body", kind, api.ErrType)
	wantFaultBehind(t, "size and kind", size, api.ErrLong)
	wantFaultBehind(t, "mark, size and kind", mark, api.ErrMark)
	mark = withSize(mark, 20)
	wantFaultBehind(t, "mark and kind", mark, api.ErrMark)
	mark[18] = 4
	wantFaultBehind(t, "mark and body", mark, api.ErrMark)
	wantFaultBehind(t, "size alone", withSize(body, 4097), api.ErrLong)
}

// P6.2: of the faults of several messages the first one counts; what stands behind it does not matter.
func TestSplitFirstFault(t *testing.T) {
	mark := message(4, nil)
	mark[15] = 0
	faults := []struct {
		b    []byte
		want api.Errno
	}{{mark, api.ErrMark}, {withSize(message(4, nil), 18), api.ErrLong}, {message(6, nil), api.ErrType}, {message(4, []byte{1}), api.ErrForm}}
	alive := message(4, nil)
	for _, x := range faults {
		for _, y := range faults {
			wantFaultBehind(t, "two faults", slices.Concat(x.b, y.b), x.want)
		}
		wantFaultBehind(t, "before others", slices.Concat(x.b, alive, alive), x.want)
		wantFaultBehind(t, "before an incomplete one", slices.Concat(x.b, alive[:7]), x.want)
	}
}

// R4: Split does not change its argument, and its results share no memory.
func TestSplitSharesNothing(t *testing.T) {
	m := api.Msg{Kind: 2, A: fullAttrs(), Reach: flood, Unreach: auto}
	b, _ := msg.Bytes(m)
	b = slices.Concat(b, b, b[:30])
	memory := append(bytes.Clone(b), 7, 7, 7, 7)
	stream := memory[:len(b)]
	first, rest, _ := msg.Split(stream)
	if !bytes.Equal(memory, append(bytes.Clone(b), 7, 7, 7, 7)) {
		t.Errorf("Split changes its argument to % x", memory)
	}
	second, secondRest, _ := msg.Split(stream)
	x := first[0]
	x.A.Path[0], x.A.Clusters[0], x.A.Comms[0], x.Reach[0], x.Unreach[0] = 99, 99, api.Comm{99}, prefixRoute, prefixRoute
	rest = append(rest[:3], 9, 9, 9, 9)
	clear(rest)
	clear(memory)
	if !sameAll(second, []api.Msg{m, m}) || !same(first[1], m) || !bytes.Equal(secondRest, b[len(b)-30:]) {
		t.Errorf("Split shares memory: %+v, %+v, % x", first, second, secondRest)
	}
}
