package addr_test

import (
	"cmp"
	"math"
	"testing"

	"leafmesh/addr"
	"leafmesh/api"
)

// lengths are the valid lengths of prefixes and some others.
func lengths() []int {
	list := []int{-1, -32, 33, 34, 64, 65, 256, 1 << 32, math.MinInt, math.MinInt + 16, math.MaxInt}
	for n := range 33 {
		list = append(list, n)
	}
	return list
}

// someIPs are addresses that agree in different numbers of first bits.
func someIPs() []api.IP {
	list := []api.IP{0, 1, 0x0a010203, 0x0a01ffff, 0x0a020203, 0x7fffffff, 0x80000000, 0xc0a80101, math.MaxUint32}
	for bit := range 32 {
		list = append(list, 0x0a010203^1<<bit)
	}
	return list
}

// valid, agree and clean say bit by bit what the chapter says of prefixes.
func valid(p api.Prefix) bool { return 0 <= p.Len && p.Len <= 32 }

func bitOf(ip api.IP, i int) api.IP { return ip >> (31 - i) & 1 }

func agree(a, b api.IP, first int) bool {
	for i := range first {
		if bitOf(a, i) != bitOf(b, i) {
			return false
		}
	}
	return true
}

func clean(p api.Prefix) api.Prefix {
	q := api.Prefix{Len: p.Len}
	for i := range p.Len {
		q.IP |= bitOf(p.IP, i) << (31 - i)
	}
	return q
}

// checkOrder compares each value with each other one; they are in ascending order.
func checkOrder[T any](t *testing.T, ascending []T, compare func(a, b T) int) {
	t.Helper()
	for i, a := range ascending {
		for j, b := range ascending {
			if got := compare(a, b); got != cmp.Compare(i, j) {
				t.Errorf("%v compared with %v gives %d", a, b, got)
			}
		}
	}
}

// P1.2: the edges that the chapter names, in plain numbers.
func TestContainsExamples(t *testing.T) {
	tests := []struct {
		p    api.Prefix
		ip   api.IP
		want bool
	}{
		{api.Prefix{IP: 0x0a010000, Len: 16}, 0x0a010203, true},
		{api.Prefix{IP: 0x0a010000, Len: 16}, 0x0a01ffff, true},
		{api.Prefix{IP: 0x0a010000, Len: 16}, 0x0a020000, false},
		{api.Prefix{IP: 0x0a010000, Len: 16}, 0x0a00ffff, false},
		{api.Prefix{IP: 0x0a0109ff, Len: 16}, 0x0a010203, true}, // not clean, but valid
		{api.Prefix{}, 0, true},
		{api.Prefix{}, math.MaxUint32, true},
		{api.Prefix{IP: 9}, 7, true},
		{api.Prefix{IP: 0x80000000, Len: 1}, 0x80000000, true},
		{api.Prefix{IP: 0x80000000, Len: 1}, 0x7fffffff, false},
		{api.Prefix{IP: 7, Len: 32}, 7, true},
		{api.Prefix{IP: 7, Len: 32}, 6, false},
		{api.Prefix{IP: 7, Len: 31}, 6, true},
		{api.Prefix{IP: 7, Len: 33}, 7, false},
		{api.Prefix{IP: 7, Len: -1}, 7, false},
	}
	for _, x := range tests {
		if got := addr.Contains(x.p, x.ip); got != x.want {
			t.Errorf("Contains(%v, %#x) = %v", x.p, x.ip, got)
		}
	}
}

// P1.2: Contains compares exactly the first Len bits, and accepts no prefix that is not valid.
func TestContains(t *testing.T) {
	for _, length := range lengths() {
		for _, a := range someIPs() {
			for _, b := range someIPs() {
				p := api.Prefix{IP: a, Len: length}
				want := valid(p) && agree(a, b, length)
				if got := addr.Contains(p, b); got != want {
					t.Fatalf("Contains(%v, %#x) = %v", p, b, got)
				}
			}
		}
	}
}

// P1.2: Covers wants two valid prefixes, the first one no longer than the second one.
func TestCovers(t *testing.T) {
	for _, n := range lengths() {
		for _, k := range lengths() {
			for _, b := range someIPs() {
				p, q := api.Prefix{IP: 0x0a010203, Len: n}, api.Prefix{IP: b, Len: k}
				want := valid(p) && valid(q) && n <= k && agree(p.IP, q.IP, n)
				if got := addr.Covers(p, q); got != want {
					t.Fatalf("Covers(%v, %v) = %v", p, q, got)
				}
			}
		}
	}
}

// P1.2: Clean keeps the first Len bits and the length; a prefix that is not valid gives ErrRange and nothing else.
func TestClean(t *testing.T) {
	for _, length := range lengths() {
		for _, ip := range someIPs() {
			p, want, wantErr := api.Prefix{IP: ip, Len: length}, api.Prefix{}, api.ErrRange
			if valid(p) {
				want, wantErr = clean(p), api.OK
			}
			if got, err := addr.Clean(p); got != want || err != wantErr {
				t.Errorf("Clean(%v) = %v, %v", p, got, err)
			}
		}
	}
	got, err := addr.Clean(api.Prefix{IP: 0x0a010203, Len: 16})
	if want := (api.Prefix{IP: 0x0a010000, Len: 16}); got != want || err != api.OK {
		t.Errorf("Clean = %v, %v", got, err)
	}
}

// P1.2: prefixes are ordered by IP as numbers without sign, then by Len, also those that are not valid.
func TestComparePrefix(t *testing.T) {
	ascending := []api.Prefix{
		{IP: 0, Len: math.MinInt}, {IP: 0, Len: -1}, {IP: 0, Len: 0}, {IP: 0, Len: 32}, {IP: 0, Len: math.MaxInt},
		{IP: 1, Len: math.MinInt}, {IP: 1, Len: 3}, {IP: 1, Len: 4},
		{IP: 0x0a010000, Len: 16}, {IP: 0x0a010000, Len: 17}, {IP: 0x0a020000, Len: 0},
		{IP: 0x7fffffff, Len: 33}, {IP: 0x80000000, Len: 1}, {IP: math.MaxUint32, Len: -5}, {IP: math.MaxUint32, Len: 40},
	}
	checkOrder(t, ascending, addr.ComparePrefix)
}

// P1.6: Covers is reflexive for valid prefixes, for no other ones, and transitive.
func TestCoversIsAnOrder(t *testing.T) {
	var list []api.Prefix
	for _, length := range []int{-1, 0, 1, 8, 15, 16, 24, 31, 32, 33} {
		for _, ip := range []api.IP{0, 0x0a010203, 0x0a010200, 0x0a010000, 0x0a020203, 0x8a010203} {
			list = append(list, api.Prefix{IP: ip, Len: length})
		}
	}
	chains := 0
	for _, p := range list {
		if addr.Covers(p, p) != valid(p) {
			t.Errorf("Covers(%v, %v) = %v", p, p, !valid(p))
		}
		for _, q := range list {
			for _, r := range list {
				if !addr.Covers(p, q) || !addr.Covers(q, r) {
					continue
				}
				chains++
				if !addr.Covers(p, r) {
					t.Errorf("%v covers %v, which covers %v, which the first one does not", p, q, r)
				}
			}
		}
	}
	if chains == 0 {
		t.Error("no prefix covers another one")
	}
}

// P1.6: a prefix contains an address exactly if it covers the prefix of length 32 with that address.
func TestContainsIsCoversOfAHost(t *testing.T) {
	seen := map[bool]int{}
	for _, length := range lengths() {
		for _, a := range someIPs() {
			for _, b := range someIPs() {
				p, host := api.Prefix{IP: a, Len: length}, api.Prefix{IP: b, Len: 32}
				contains := addr.Contains(p, b)
				seen[contains]++
				if covers := addr.Covers(p, host); contains != covers {
					t.Fatalf("Contains(%v, %#x) = %v, Covers = %v", p, b, contains, covers)
				}
			}
		}
	}
	if seen[true] == 0 || seen[false] == 0 {
		t.Error("only one answer was seen", seen)
	}
}
