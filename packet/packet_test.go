package packet_test

import (
	"math"
	"testing"

	"leafmesh/api"
	"leafmesh/packet"
)

// Hardware addresses: a host's, the greatest one that is not of a group, one of a group, and the first one that is too great.
const (
	hostMAC  = 0x020000000001
	lastMAC  = 0xfeffffffffff
	groupMAC = 0x01005e000001
	wideMAC  = api.MaxMAC + 1
)

// plain, request and flow are frames of all kinds, with ordinary values.
var (
	plain   = api.Frame{Src: hostMAC, Dst: api.Broadcast, Data: 7}
	request = api.Frame{Src: hostMAC, Dst: api.Broadcast, Kind: 1, ARP: api.ARP{Op: 1, SenderMAC: hostMAC, SenderIP: 0x0a010001, TargetIP: 0x0a010002}}
	flow    = api.Frame{Src: hostMAC, Dst: api.GatewayMAC, Kind: 2, IP: api.Head{Src: 0x0a010001, Dst: 0x0a010002, TTL: 64, Proto: 17, SrcPort: 1000, DstPort: 53}, Data: 9}
)

// kinds is a frame of each kind.
var kinds = []api.Frame{plain, request, flow}

// wantCheck checks what Check says about a frame, and that Bytes says the same.
func wantCheck(t *testing.T, name string, f api.Frame, want api.Errno) {
	t.Helper()
	if err := packet.Check(f); err != want {
		t.Errorf("%s: Check(%+v) = %v, want %v", name, f, err, want)
	}
	b, err := packet.Bytes(f)
	if err != want || (b != nil) != (want == api.OK) {
		t.Errorf("%s: Bytes(%+v) = % x, %v, want %v", name, f, b, err, want)
	}
}

// P7.1: frames of all kinds are valid.
func TestCheckKinds(t *testing.T) {
	wantCheck(t, "zero", api.Frame{}, api.OK)
	for _, f := range kinds {
		wantCheck(t, "ordinary", f, api.OK)
		f.Data = math.MaxUint64
		wantCheck(t, "greatest data", f, api.OK)
	}
	for _, kind := range []int{-1, 3, 4, 0x0800, 0x0806, 0x88b5, 256, 1 << 32, 1<<32 + 1, math.MinInt, math.MaxInt} {
		wantCheck(t, "kind", api.Frame{Src: hostMAC, Kind: kind}, api.ErrType)
	}
}

// P7.1: both hardware addresses of a frame are at most MaxMAC; the source is not a group, the destination may be one.
func TestCheckAddresses(t *testing.T) {
	for _, f := range kinds {
		for _, x := range []struct {
			mac      api.MAC
			src, dst api.Errno
		}{
			{0, api.OK, api.OK},
			{hostMAC, api.OK, api.OK},
			{lastMAC, api.OK, api.OK},
			{groupMAC, api.ErrForm, api.OK},
			{1 << 40, api.ErrForm, api.OK},
			{api.Broadcast, api.ErrForm, api.OK},
			{wideMAC, api.ErrRange, api.ErrRange},
			{wideMAC | groupMAC, api.ErrRange, api.ErrRange},
			{1 << 63, api.ErrRange, api.ErrRange},
			{math.MaxUint64, api.ErrRange, api.ErrRange},
		} {
			changed := f
			changed.Src = x.mac
			wantCheck(t, "Src", changed, x.src)
			changed = f
			changed.Dst = x.mac
			wantCheck(t, "Dst", changed, x.dst)
		}
	}
}

// P7.1: a frame uses no fields of another kind, each of which counts.
func TestCheckOtherKinds(t *testing.T) {
	for _, a := range []api.ARP{{Op: 1}, {Op: -1}, {SenderMAC: 1}, {SenderMAC: wideMAC}, {SenderIP: 1}, {TargetMAC: 1}, {TargetIP: 1}, request.ARP} {
		for _, f := range []api.Frame{plain, flow} {
			f.ARP = a
			wantCheck(t, "ARP", f, api.ErrForm)
		}
	}
	for _, h := range []api.Head{{Src: 1}, {Dst: 1}, {TTL: 1}, {TTL: 256}, {Proto: 1}, {Proto: -1}, {SrcPort: 1}, {DstPort: 1}, flow.IP} {
		for _, f := range []api.Frame{plain, request} {
			f.IP = h
			wantCheck(t, "IP", f, api.ErrForm)
		}
	}
}

// P7.1: an ARP message is a request or a reply, with hardware addresses of at most MaxMAC, groups among them.
func TestCheckARP(t *testing.T) {
	for _, op := range []int{math.MinInt, -1, 0, 1, 2, 3, 4, 255, 256, 257, 258, 1<<16 + 1, 1<<32 + 1, math.MaxInt} {
		f := request
		f.ARP.Op = op
		want := api.ErrRange
		if op == 1 || op == 2 {
			want = api.OK
		}
		wantCheck(t, "Op", f, want)
	}
	for _, x := range []struct {
		mac  api.MAC
		want api.Errno
	}{{0, api.OK}, {groupMAC, api.OK}, {api.Broadcast, api.OK}, {wideMAC, api.ErrRange}, {math.MaxUint64, api.ErrRange}} {
		f := request
		f.ARP.SenderMAC = x.mac
		wantCheck(t, "SenderMAC", f, x.want)
		f = request
		f.ARP.TargetMAC = x.mac
		wantCheck(t, "TargetMAC", f, x.want)
	}
	f := request
	f.ARP.SenderIP, f.ARP.TargetIP = math.MaxUint32, math.MaxUint32
	wantCheck(t, "IP addresses", f, api.OK)
}

// P7.1: the numbers of an IPv4 header are those that its fields hold.
func TestCheckHeader(t *testing.T) {
	fields := []struct {
		name string
		most int
		of   func(h *api.Head) *int
	}{
		{"TTL", 255, func(h *api.Head) *int { return &h.TTL }},
		{"SrcPort", 65535, func(h *api.Head) *int { return &h.SrcPort }},
		{"DstPort", 65535, func(h *api.Head) *int { return &h.DstPort }},
	}
	for _, field := range fields {
		for _, n := range []int{math.MinInt, -1 << 32, -65535, -1, 0, 1, 64, 254, 255, 256, 257, 65534, 65535, 65536, 1 << 32, math.MaxInt} {
			f := flow
			*field.of(&f.IP) = n
			want := api.ErrRange
			if n >= 0 && n <= field.most {
				want = api.OK
			}
			wantCheck(t, field.name, f, want)
		}
	}
}

// P7.1: protocols are from 0 to 255; only two of them have ports.
func TestCheckPorts(t *testing.T) {
	for proto := -300; proto <= 600; proto++ {
		f := flow
		f.IP.Proto = proto
		bare, none := api.ErrRange, api.ErrRange
		switch {
		case proto == 6 || proto == 17:
			bare, none = api.OK, api.OK
		case proto >= 0 && proto <= 255:
			bare, none = api.ErrForm, api.OK
		}
		wantCheck(t, "both ports", f, bare)
		f.IP.SrcPort = 0
		wantCheck(t, "only DstPort", f, bare)
		f.IP.SrcPort, f.IP.DstPort = 1, 0
		wantCheck(t, "only SrcPort", f, bare)
		f.IP.SrcPort = 0
		wantCheck(t, "no ports", f, none)
	}
}

// P7.1: Ported is true for two protocols, of all numbers.
func TestPorted(t *testing.T) {
	for proto := -70000; proto <= 70000; proto++ {
		if got := packet.Ported(proto); got != (proto == 6 || proto == 17) {
			t.Errorf("Ported(%d) = %v", proto, got)
		}
	}
	for _, proto := range []int{math.MinInt, math.MaxInt, 1<<32 + 6, 1<<32 + 17, -1<<32 + 17} {
		if packet.Ported(proto) {
			t.Errorf("Ported(%d)", proto)
		}
	}
}

// P7.1, R1: of several errors, the one named first counts.
func TestCheckOrder(t *testing.T) {
	// The steps are changes with an error each, in the order in which Check finds them.
	steps := []struct {
		want   api.Errno
		change func(f *api.Frame)
	}{
		{api.ErrRange, func(f *api.Frame) { f.Dst = wideMAC }},
		{api.ErrForm, func(f *api.Frame) { f.Src = groupMAC }},
		{api.ErrType, func(f *api.Frame) { f.Kind = 9 }},
		{api.ErrForm, func(f *api.Frame) { f.ARP.SenderMAC, f.IP.TTL = wideMAC, 256 }},
	}
	for _, f := range kinds {
		for i := len(steps) - 1; i >= 0; i-- {
			steps[i].change(&f)
			wantCheck(t, "steps", f, steps[i].want)
		}
	}
	f := request
	f.ARP.Op, f.IP.Src = 3, 1
	wantCheck(t, "a field of another kind, and Op", f, api.ErrForm)
	f = flow
	f.IP.TTL, f.ARP.Op = 256, 1
	wantCheck(t, "a field of another kind, and TTL", f, api.ErrForm)
	f = flow
	f.IP.Proto, f.IP.TTL = 1, 256
	wantCheck(t, "ports without a protocol, and TTL", f, api.ErrRange)
	f = flow
	f.IP.Proto, f.IP.DstPort = 1, 65536
	wantCheck(t, "ports without a protocol, and one that is too great", f, api.ErrRange)
	f = flow
	f.Src, f.Dst = groupMAC, math.MaxUint64
	wantCheck(t, "both addresses", f, api.ErrRange)
}
