package addr

import (
	"iter"
	"strconv"
	"strings"

	"leafmesh/api"
)

// The numbers of bytes of the addresses.
const (
	macBytes = 6
	ipBytes  = 4
)

// number is the types of the numbers whose bytes are written in addresses.
type number interface {
	uint32 | api.IP | api.MAC
}

// MACText returns the text of a hardware address.
func MACText(m api.MAC) (string, api.Errno) {
	if !validMAC(m) {
		return "", api.ErrRange
	}
	return write(parts(m, macBytes), ':', appendHex), api.OK
}

// ParseMAC parses a hardware address.
func ParseMAC(s string) (api.MAC, api.Errno) {
	return readNumber[api.MAC](s, ":", macBytes, readHex)
}

// IPText returns the text of an address.
func IPText(ip api.IP) string {
	return write(parts(ip, ipBytes), '.', appendDecimal)
}

// ParseIP parses an address.
func ParseIP(s string) (api.IP, api.Errno) {
	return readNumber[api.IP](s, ".", ipBytes, readDecimal)
}

// PrefixText returns the text of a prefix.
func PrefixText(p api.Prefix) (string, api.Errno) {
	if !validPrefix(p) {
		return "", api.ErrRange
	}
	return IPText(p.IP) + "/" + strconv.Itoa(p.Len), api.OK
}

// ParsePrefix parses a prefix.
func ParsePrefix(s string) (api.Prefix, api.Errno) {
	// Without a slash the length is empty, which is no number.
	address, length, _ := strings.Cut(s, "/")
	ip, err := ParseIP(address)
	bits, isNumber := readDecimal(length)
	p := api.Prefix{IP: ip, Len: int(bits)}
	if err != api.OK || !isNumber || !validPrefix(p) {
		return api.Prefix{}, api.ErrSyntax
	}
	if clean, _ := Clean(p); clean != p {
		return api.Prefix{}, api.ErrForm
	}
	return p, api.OK
}

// ESIText returns the text of an identifier.
func ESIText(e api.ESI) string {
	return write(octets(e), ':', appendHex)
}

// ParseESI parses an identifier.
func ParseESI(s string) (api.ESI, api.Errno) {
	list, ok := readBytes(s, ":", esiBytes, readHex)
	if !ok {
		return api.ESI{}, api.ErrSyntax
	}
	var e api.ESI
	copy(e[:], list)
	return e, api.OK
}

// parts visits the lowest bytes of a number, count of them, most significant first, with their positions.
func parts[N number](n N, count int) iter.Seq2[int, byte] {
	return func(yield func(int, byte) bool) {
		for i := range count {
			if !yield(i, byte(n>>(8*(count-1-i)))) {
				return
			}
		}
	}
}

// write returns the texts of the bytes, as add writes them, with a separator between them.
func write(list iter.Seq2[int, byte], separator byte, add func([]byte, byte) []byte) string {
	var text []byte
	for i, b := range list {
		if i > 0 {
			text = append(text, separator)
		}
		text = add(text, b)
	}
	return string(text)
}

func appendHex(text []byte, b byte) []byte {
	if b < 16 {
		text = append(text, '0')
	}
	return strconv.AppendUint(text, uint64(b), 16)
}

func appendDecimal(text []byte, b byte) []byte {
	return strconv.AppendUint(text, uint64(b), 10)
}

// readNumber reads the text of an address that is a number of count bytes.
func readNumber[N number](s, separator string, count int, read func(string) (byte, bool)) (N, api.Errno) {
	list, ok := readBytes(s, separator, count, read)
	if !ok {
		return 0, api.ErrSyntax
	}
	var n N
	for _, b := range list {
		n = n<<8 | N(b)
	}
	return n, api.OK
}

// readBytes reads a text of exactly count groups with a separator between them; read turns a group into a byte.
func readBytes(s, separator string, count int, read func(string) (byte, bool)) ([]byte, bool) {
	list := make([]byte, 0, count)
groups:
	for {
		group, rest, more := strings.Cut(s, separator)
		b, ok := read(group)
		if !ok {
			return nil, false
		}
		list = append(list, b)
		switch {
		case !more:
			break groups
		case len(list) == count: // stop here, so that the work is bounded by count whatever follows
			return nil, false
		}
		s = rest
	}
	return list, len(list) == count
}

// readHex reads exactly two hexadecimal digits.
func readHex(group string) (byte, bool) {
	if len(group) != 2 {
		return 0, false
	}
	n, err := strconv.ParseUint(group, 16, 8)
	return byte(n), err == nil
}

// readDecimal reads a decimal number from 0 to 255 without leading zeros.
func readDecimal(group string) (byte, bool) {
	if len(group) > 1 && group[0] == '0' {
		return 0, false
	}
	n, err := strconv.ParseUint(group, 10, 8)
	return byte(n), err == nil
}
