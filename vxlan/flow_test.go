package vxlan_test

import (
	"math"
	"math/rand"
	"testing"

	"leafmesh/api"
	"leafmesh/vxlan"
)

// P8.3: the hash of bytes, known ones among them.
func TestHash(t *testing.T) {
	all := make([]byte, 256)
	for i := range all {
		all[i] = byte(i)
	}
	for _, x := range []struct {
		b    []byte
		want uint32
	}{
		{nil, 2166136261},
		{[]byte{}, 2166136261},
		{[]byte{0}, 84696351},
		{[]byte("a"), 0xe40c292c},
		{[]byte("b"), 0xe70c2de5},
		{[]byte("foobar"), 0xbf9cf968},
		{[]byte{0xff}, 0x7a0b824e},
		{[]byte{0xff, 0xff, 0xff, 0xff}, 0xe3160fb1},
		{all, 0x90a458c5},
		{make([]byte, 1000), 0x31e4eae5},
	} {
		if got := vxlan.Hash(x.b); got != x.want {
			t.Errorf("Hash(% x) = %08x, want %08x", x.b, got, x.want)
		}
	}
}

// P8.3: each byte changes the hash as the chapter says, with numbers that cannot overflow.
func TestHashSteps(t *testing.T) {
	random := rand.New(rand.NewSource(1))
	b := make([]byte, 2000)
	random.Read(b)
	h := uint64(2166136261)
	for n := range b {
		if got := vxlan.Hash(b[:n]); uint64(got) != h {
			t.Fatalf("Hash of %d bytes = %d, want %d", n, got, h)
		}
		h = (h ^ uint64(b[n])) * 16777619 % (1 << 32)
	}
}

// wantEntropy checks that a frame has the entropy of a flow in hexadecimal digits.
func wantEntropy(t *testing.T, f api.Frame, text string) {
	t.Helper()
	want := 49152 + int(vxlan.Hash(unhex(t, text))%16384)
	if got := vxlan.Entropy(f); got != want {
		t.Errorf("Entropy(%+v) = %d, want %d", f, got, want)
	}
}

// P8.3: the entropy of frames of all kinds, as numbers.
func TestEntropy(t *testing.T) {
	for _, x := range []struct {
		f    api.Frame
		want int
	}{
		{plain, 50858},
		{request, 51261},
		{ping, 54023},
		{stream, 56465},
		{api.Frame{}, 58095},
		{api.Frame{Src: 0xfeffffffffff, Dst: api.Broadcast, Data: math.MaxUint64}, 52296},
	} {
		if got := vxlan.Entropy(x.f); got != x.want {
			t.Errorf("Entropy(%+v) = %d, want %d", x.f, got, x.want)
		}
	}
}

// P8.3: the flow has the fields of its kind in their order, with the most significant byte first.
func TestFlows(t *testing.T) {
	f := api.Frame{Src: 0x121314151617, Dst: 0x222324252627}
	wantEntropy(t, f, "121314151617 222324252627 00")
	f.Kind = 1
	wantEntropy(t, f, "121314151617 222324252627 01")
	f.Kind = 2
	wantEntropy(t, f, "00000000 00000000 00 0000 0000")
	f.IP = api.Head{Src: 0x42434445, Dst: 0x46474849, TTL: 0x4a, Proto: 17, SrcPort: 0x5152, DstPort: 0x5354}
	wantEntropy(t, f, "42434445 46474849 11 5152 5354")
	f.IP = api.Head{Src: 0x42434445, Dst: 0x46474849, Proto: 1}
	wantEntropy(t, f, "42434445 46474849 01 0000 0000")
	f.IP = api.Head{Src: math.MaxUint32, Dst: math.MaxUint32, Proto: 255, SrcPort: 65535, DstPort: 65535}
	wantEntropy(t, f, "ffffffff ffffffff ff ffff ffff")
}

// P8.3, R5: frames that are not valid have flows, too; of a field that does not fit, these have the lowest bytes.
func TestFlowsOfWrongFrames(t *testing.T) {
	for _, x := range wrongFrames {
		if got := vxlan.Entropy(x.f); got < 49152 || got > 65535 {
			t.Errorf("Entropy(%+v) = %d", x.f, got)
		}
	}
	wantEntropy(t, api.Frame{Src: 0xa1a2121314151617, Dst: 0xb1b2222324252627, Kind: 0xc1c2c3c4c5c6c7c}, "121314151617 222324252627 7c")
	wantEntropy(t, api.Frame{Src: math.MaxUint64, Dst: math.MaxUint64, Kind: math.MaxInt}, "ffffffffffff ffffffffffff ff")
	wantEntropy(t, api.Frame{Kind: -1}, "000000000000 000000000000 ff")
	wantEntropy(t, api.Frame{Kind: math.MinInt}, "000000000000 000000000000 00")
	wantEntropy(t, api.Frame{Kind: 258, IP: api.Head{Src: 1, Proto: 6}}, "000000000000 000000000000 02")
	wantEntropy(t, api.Frame{Kind: 3, ARP: api.ARP{Op: 1}}, "000000000000 000000000000 03")

	ip := func(proto, src, dst int) api.Frame {
		return api.Frame{Kind: 2, IP: api.Head{Src: 1, Dst: 2, Proto: proto, SrcPort: src, DstPort: dst}}
	}
	wantEntropy(t, ip(1, 3, 4), "00000001 00000002 01 0003 0004")
	wantEntropy(t, ip(0x106, 0x10203, 0x7f0405), "00000001 00000002 06 0203 0405")
	wantEntropy(t, ip(-1, -2, -3), "00000001 00000002 ff fffe fffd")
	wantEntropy(t, ip(-256, -65536, -65535), "00000001 00000002 00 0000 0001")
	wantEntropy(t, ip(math.MaxInt, math.MaxInt, math.MinInt), "00000001 00000002 ff ffff 0000")
}

// P8.3, P8.4: the entropy is one that a packet can have, and all ports of its range occur.
func TestEntropyRange(t *testing.T) {
	seen := map[int]bool{}
	for i := range 200000 {
		f := api.Frame{Src: api.MAC(i), Dst: api.MAC(i % 7)}
		entropy := vxlan.Entropy(f)
		if entropy < 49152 || entropy > 65535 {
			t.Fatalf("Entropy(%+v) = %d", f, entropy)
		}
		seen[entropy] = true
	}
	if len(seen) != 16384 {
		t.Errorf("%d ports occur", len(seen))
	}
}

// P8.5: frames that differ only in Data, or in what the flow of FrameIP does not have, have the same entropy.
func TestSameFlow(t *testing.T) {
	random := rand.New(rand.NewSource(2))
	for range 10000 {
		f := validFrame(random)
		want := vxlan.Entropy(f)
		other := f
		other.Data = random.Uint64()
		if f.Kind == api.FrameIP {
			other.Src, other.Dst, other.IP.TTL = someMAC(random), someMAC(random), random.Intn(256)
		}
		if got := vxlan.Entropy(other); got != want {
			t.Errorf("Entropy(%+v) = %d, but Entropy(%+v) = %d", f, want, other, got)
		}
		other.ARP, other.IP.TTL = api.ARP{Op: random.Int(), SenderIP: 1}, random.Int()
		if got := vxlan.Entropy(other); got != want {
			t.Errorf("Entropy(%+v) = %d, but Entropy(%+v) = %d", f, want, other, got)
		}
	}
}

// P8.3: each field of the flow counts.
func TestOtherFlow(t *testing.T) {
	for _, f := range []api.Frame{plain, request} {
		for name, change := range map[string]func(f *api.Frame){
			"Src":       func(f *api.Frame) { f.Src++ },
			"Src begin": func(f *api.Frame) { f.Src ^= 1 << 47 },
			"Dst":       func(f *api.Frame) { f.Dst-- },
			"Dst begin": func(f *api.Frame) { f.Dst ^= 1 << 47 },
			"Kind":      func(f *api.Frame) { f.Kind ^= 1 },
		} {
			wantOther(t, name, f, change)
		}
	}
	for name, change := range map[string]func(f *api.Frame){
		"Src":     func(f *api.Frame) { f.IP.Src++ },
		"Dst":     func(f *api.Frame) { f.IP.Dst++ },
		"Proto":   func(f *api.Frame) { f.IP.Proto = 17 },
		"SrcPort": func(f *api.Frame) { f.IP.SrcPort++ },
		"DstPort": func(f *api.Frame) { f.IP.DstPort++ },
		"order":   func(f *api.Frame) { f.IP.SrcPort, f.IP.DstPort = f.IP.DstPort, f.IP.SrcPort },
		"Kind":    func(f *api.Frame) { f.Kind = 0 },
	} {
		wantOther(t, name, stream, change)
	}
}

// wantOther checks that a change gives a frame another entropy.
func wantOther(t *testing.T, name string, f api.Frame, change func(f *api.Frame)) {
	t.Helper()
	other := f
	change(&other)
	if vxlan.Entropy(f) == vxlan.Entropy(other) {
		t.Errorf("%s: %+v and %+v have the same entropy", name, f, other)
	}
}
