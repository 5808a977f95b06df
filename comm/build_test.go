package comm_test

import (
	"math"
	"testing"

	"leafmesh/api"
	"leafmesh/comm"
)

// checkComm checks a community, or the error and no community.
func checkComm(t *testing.T, name string, c api.Comm, err api.Errno, want api.Comm, wantErr api.Errno) {
	t.Helper()
	if c != want || err != wantErr {
		t.Errorf("%s = % x, %v, want % x, %v", name, c, err, want, wantErr)
	}
}

// P3.1: a target is an AS number of two bytes and a number of four, any of them.
func TestTarget(t *testing.T) {
	tests := []struct {
		as   uint16
		n    uint32
		want api.Comm
	}{
		{65000, 7, api.Comm{0x00, 0x02, 0xfd, 0xe8, 0, 0, 0, 7}},
		{0, 0, api.Comm{0x00, 0x02}},
		{1, 0, api.Comm{0x00, 0x02, 0, 1}},
		{0, 1, api.Comm{0x00, 0x02, 7: 1}},
		{0x0102, 0x03040506, api.Comm{0x00, 0x02, 1, 2, 3, 4, 5, 6}},
		{math.MaxUint16, 0, api.Comm{0x00, 0x02, 0xff, 0xff}},
		{0, math.MaxUint32, api.Comm{0x00, 0x02, 0, 0, 0xff, 0xff, 0xff, 0xff}},
		{math.MaxUint16, math.MaxUint32, api.Comm{0x00, 0x02, 0xff, 0xff, 0xff, 0xff, 0xff, 0xff}},
	}
	for _, x := range tests {
		checkComm(t, "Target", comm.Target(x.as, x.n), api.OK, x.want, api.OK)
	}
}

// P3.1: a tunnel type has two bytes.
func TestEncap(t *testing.T) {
	tests := []struct {
		kind int
		want api.Comm
		err  api.Errno
	}{
		{0, api.Comm{0x03, 0x0c}, api.OK},
		{8, api.Comm{0x03, 0x0c, 0, 0, 0, 0, 0, 8}, api.OK},
		{0x0102, api.Comm{0x03, 0x0c, 0, 0, 0, 0, 1, 2}, api.OK},
		{65535, api.Comm{0x03, 0x0c, 0, 0, 0, 0, 0xff, 0xff}, api.OK},
		{65536, api.Comm{}, api.ErrRange},
		{65536 + 8, api.Comm{}, api.ErrRange},
		{1<<32 + 8, api.Comm{}, api.ErrRange},
		{-1, api.Comm{}, api.ErrRange},
		{math.MinInt, api.Comm{}, api.ErrRange},
		{math.MinInt + 8, api.Comm{}, api.ErrRange},
		{math.MaxInt, api.Comm{}, api.ErrRange},
	}
	for _, x := range tests {
		c, err := comm.Encap(x.kind)
		checkComm(t, "Encap", c, err, x.want, x.err)
	}
}

// P3.1: a sequence number has four bytes, behind a flag and a zero byte.
func TestMobility(t *testing.T) {
	tests := []struct {
		sticky bool
		seq    uint32
		want   api.Comm
	}{
		{false, 0, api.Comm{0x06, 0x00}},
		{true, 0, api.Comm{0x06, 0x00, 1}},
		{false, 9, api.Comm{0x06, 0x00, 7: 9}},
		{true, 0x01020304, api.Comm{0x06, 0x00, 1, 0, 1, 2, 3, 4}},
		{false, math.MaxUint32, api.Comm{0x06, 0x00, 0, 0, 0xff, 0xff, 0xff, 0xff}},
		{true, math.MaxUint32, api.Comm{0x06, 0x00, 1, 0, 0xff, 0xff, 0xff, 0xff}},
	}
	for _, x := range tests {
		checkComm(t, "Mobility", comm.Mobility(x.sticky, x.seq), api.OK, x.want, api.OK)
	}
}

// P3.1: a label has three bytes, behind a flag and two zero bytes.
func TestLabel(t *testing.T) {
	tests := []struct {
		single bool
		label  uint32
		want   api.Comm
		err    api.Errno
	}{
		{false, 0, api.Comm{0x06, 0x01}, api.OK},
		{true, 0, api.Comm{0x06, 0x01, 1}, api.OK},
		{true, 258, api.Comm{0x06, 0x01, 1, 0, 0, 0, 1, 2}, api.OK},
		{false, 0x010203, api.Comm{0x06, 0x01, 0, 0, 0, 1, 2, 3}, api.OK},
		{false, 16777215, api.Comm{0x06, 0x01, 0, 0, 0, 0xff, 0xff, 0xff}, api.OK},
		{true, 16777215, api.Comm{0x06, 0x01, 1, 0, 0, 0xff, 0xff, 0xff}, api.OK},
		{false, 16777216, api.Comm{}, api.ErrRange},
		{true, 16777216, api.Comm{}, api.ErrRange},
		{true, 16777217, api.Comm{}, api.ErrRange},
		{false, 1 << 31, api.Comm{}, api.ErrRange},
		{true, math.MaxUint32, api.Comm{}, api.ErrRange},
	}
	for _, x := range tests {
		c, err := comm.Label(x.single, x.label)
		checkComm(t, "Label", c, err, x.want, x.err)
	}
}

// P3.1: import targets and router addresses are hardware addresses, group addresses among them.
func TestImportAndRouter(t *testing.T) {
	tests := []struct {
		m    api.MAC
		want [6]byte
		err  api.Errno
	}{
		{0, [6]byte{}, api.OK},
		{1, [6]byte{5: 1}, api.OK},
		{0x010203040506, [6]byte{1, 2, 3, 4, 5, 6}, api.OK},
		{0x02000000000a, [6]byte{2, 0, 0, 0, 0, 10}, api.OK},
		{1 << 47, [6]byte{0x80}, api.OK},
		{api.Broadcast, [6]byte{0xff, 0xff, 0xff, 0xff, 0xff, 0xff}, api.OK},
		{api.MaxMAC + 1, [6]byte{}, api.ErrRange},
		{1<<48 | 1, [6]byte{}, api.ErrRange},
		{1 << 63, [6]byte{}, api.ErrRange},
		{math.MaxUint64, [6]byte{}, api.ErrRange},
	}
	for _, x := range tests {
		var imported, router api.Comm
		if x.err == api.OK {
			imported, router = api.Comm{0x06, 0x02}, api.Comm{0x06, 0x03}
			copy(imported[2:], x.want[:])
			copy(router[2:], x.want[:])
		}
		c, err := comm.Import(x.m)
		checkComm(t, "Import", c, err, imported, x.err)
		c, err = comm.Router(x.m)
		checkComm(t, "Router", c, err, router, x.err)
	}
}

// P3.1: an algorithm has five bits of a byte, and a preference has two bytes, behind three zero bytes.
func TestElection(t *testing.T) {
	for alg := range 32 {
		for _, pref := range []int{0, 1, 255, 256, 0x0102, 32767, 32768, 65535} {
			c, err := comm.Election(alg, pref)
			want := api.Comm{0x06, 0x06, byte(alg), 0, 0, 0, byte(pref / 256), byte(pref % 256)}
			checkComm(t, "Election", c, err, want, api.OK)
		}
	}
}

// P3.1: an election needs an algorithm and a preference in their ranges, both of them.
func TestElectionRange(t *testing.T) {
	algs := []int{-1, -31, 32, 33, 255, 256, 258, 1 << 32, math.MinInt, math.MaxInt}
	prefs := []int{-1, -65535, 65536, 65537, 1 << 32, math.MinInt, math.MaxInt}
	check := func(alg, pref int) {
		t.Helper()
		c, err := comm.Election(alg, pref)
		checkComm(t, "Election", c, err, api.Comm{}, api.ErrRange)
	}
	for _, alg := range algs {
		check(alg, 0)
		check(alg, 65535)
		for _, pref := range prefs {
			check(0, pref)
			check(31, pref)
			check(alg, pref)
		}
	}
}
