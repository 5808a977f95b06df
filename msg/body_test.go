package msg_test

import (
	"bytes"
	"math"
	"slices"
	"testing"

	"leafmesh/api"
	"leafmesh/attr"
)

// Capabilities, in hexadecimal digits, and the body of an OPEN message before the parameters, without the size of these.
const (
	routesText   = "0104 00190046"
	refreshText  = "0200"
	asText       = "4104 0000fde8"
	openHeadText = "04 0102 005a 0aff0001"
)

// wantBody checks that a message with a body is read.
func wantBody(t *testing.T, name string, body []byte, want api.Msg) {
	t.Helper()
	wantSplit(t, name, message(byte(want.Kind), body), nil, want)
}

// wantBad checks that a body of a kind has an error.
func wantBad(t *testing.T, name string, kind byte, body []byte, err api.Errno) {
	t.Helper()
	wantFaultBehind(t, name, message(kind, body), err)
}

// item returns a parameter or a capability.
func item(code byte, value []byte) []byte {
	return append([]byte{code, byte(len(value))}, value...)
}

// openWith returns the body of an OPEN message with parameters.
func openWith(t *testing.T, parameters ...[]byte) []byte {
	t.Helper()
	all := slices.Concat(parameters...)
	return slices.Concat(unhex(t, openHeadText), []byte{byte(len(all))}, all)
}

// openOf returns the body of an OPEN message with capabilities, in hexadecimal digits, all in one parameter.
func openOf(t *testing.T, text string) []byte {
	t.Helper()
	return openWith(t, item(2, unhex(t, text)))
}

// plain is what the capabilities that must be there say, with openHeadText.
var plain = api.Open{AS: 65000, Hold: 90, ID: 0x0aff0001}

// P6.3: an OPEN message has capabilities in any order, and those of several parameters count together.
func TestOpenBody(t *testing.T) {
	routes, refresh, as := unhex(t, routesText), unhex(t, refreshText), unhex(t, asText)
	for _, x := range []struct {
		name string
		body []byte
	}{
		{"routes, AS", openOf(t, routesText+asText)},
		{"AS, routes", openOf(t, asText+routesText)},
		{"AS, refresh, routes", openOf(t, asText+refreshText+routesText)},
		{"two parameters", openWith(t, item(2, routes), item(2, as))},
		{"two parameters, the other way round", openWith(t, item(2, as), item(2, routes))},
		{"three parameters", openWith(t, item(2, as), item(2, refresh), item(2, routes))},
		{"parameters without capabilities", openWith(t, item(2, nil), item(2, as), item(2, nil), item(2, routes), item(2, nil))},
		{"others", openOf(t, "0000 0301aa ff03010203"+routesText+"4600"+asText+"0902ffff")},
		{"others that are like those", openOf(t, routesText+asText+"8104 00190046 c104 00000001 c006 8fff00194680")},
		{"routes of another family, too", openOf(t, "0104 00010001"+routesText+asText+"0104 00020046")},
		{"routes of another size, too", openOf(t, "0103 001900 0105 0019004600 0100"+routesText+asText)},
		{"routes twice", openOf(t, routesText+routesText+asText)},
		{"refresh with bytes", openOf(t, routesText+asText+"0203 010203")},
	} {
		wantBody(t, x.name, x.body, openMsg(plain))
	}
}

// P6.3: the fields before the capabilities; the AS number among them is ignored.
func TestOpenHead(t *testing.T) {
	rest := openOf(t, routesText+asText)[9:]
	for _, as := range []string{"0000", "0102", "5ba0", "fde8", "ffff"} {
		for _, id := range []api.IP{0, 1, 0x01020304, 0x80000000, math.MaxUint32} {
			body := slices.Concat(unhex(t, "04"+as+"005a"), []byte{byte(id >> 24), byte(id >> 16), byte(id >> 8), byte(id)}, rest)
			wantBody(t, "head", body, openMsg(api.Open{AS: 65000, Hold: 90, ID: id}))
		}
	}
	for hold := range 1 << 16 {
		body := slices.Concat(unhex(t, "04 0102"), []byte{byte(hold >> 8), byte(hold)}, unhex(t, "0aff0001"), rest)
		switch {
		case hold == 1 || hold == 2:
			wantBad(t, "Hold", 1, body, api.ErrForm)
		case hold < 600 || hold%251 == 0 || hold > 65000:
			wantBody(t, "Hold", body, openMsg(api.Open{AS: 65000, Hold: hold, ID: 0x0aff0001}))
		}
	}
}

// P6.3: an OPEN message has at least 10 bytes, and then the version 4; these come before all else.
func TestOpenVersion(t *testing.T) {
	good := openOf(t, routesText+asText)
	for version := range 256 {
		body := slices.Clone(good)
		body[0] = byte(version)
		for n := range 10 {
			wantBad(t, "short", 1, body[:n], api.ErrForm)
		}
		if version == 4 {
			continue
		}
		wantBad(t, "version", 1, body, api.ErrVersion)
		wantBad(t, "version and size", 1, body[:10], api.ErrVersion)
		wantBad(t, "version and capabilities", 1, append(body, 1), api.ErrVersion)
		body[4] = 1
		wantBad(t, "version and Hold", 1, body, api.ErrVersion)
	}
}

// P6.3: the tenth byte of an OPEN message is the size of what follows.
func TestOpenSize(t *testing.T) {
	good := openOf(t, routesText+asText)
	for size := range 256 {
		body := slices.Clone(good)
		body[9] = byte(size)
		if size != len(good)-10 {
			wantBad(t, "another size", 1, body, api.ErrForm)
		}
	}
	for n := 10; n < len(good); n++ {
		wantBad(t, "cut off", 1, good[:n], api.ErrForm)
		body := slices.Clone(good[:n])
		body[9] = byte(n - 10)
		wantBad(t, "shorter", 1, body, api.ErrForm)
	}
	wantBad(t, "longer", 1, append(slices.Clone(good), 0), api.ErrForm)
	wantBad(t, "longer by 256 bytes", 1, append(slices.Clone(good), make([]byte, 256)...), api.ErrForm)
}

// P6.3: what follows is a sequence of parameters with the code 2.
func TestOpenParameters(t *testing.T) {
	routes, as := unhex(t, routesText), unhex(t, asText)
	both := item(2, slices.Concat(routes, as))
	for code := range 256 {
		if code == 2 {
			continue
		}
		wantBad(t, "another code", 1, openWith(t, item(byte(code), both[2:])), api.ErrForm)
		wantBad(t, "another code behind", 1, openWith(t, both, item(byte(code), nil)), api.ErrForm)
		wantBad(t, "another code before", 1, openWith(t, item(byte(code), []byte{1, 0}), both), api.ErrForm)
	}
	for size := range 256 {
		changed := slices.Clone(both)
		changed[1] = byte(size)
		if size != len(both)-2 {
			wantBad(t, "another size", 1, openWith(t, changed), api.ErrForm)
		}
	}
	for _, x := range []string{"02", "0201", "020100 02", "02020100 0202 01", "00", "0000"} {
		wantBad(t, "more behind", 1, openWith(t, both, unhex(t, x)), api.ErrForm)
	}
	wantBad(t, "none", 1, openWith(t), api.ErrForm)
	wantBad(t, "an empty one", 1, openWith(t, item(2, nil)), api.ErrForm)
	wantBad(t, "capabilities without a parameter", 1, openWith(t, routes, as), api.ErrForm)
}

// P6.3: the bytes of a parameter are a sequence of capabilities.
func TestOpenCapabilities(t *testing.T) {
	good := routesText + asText
	for _, x := range []string{"01", "0101", "0104 001900", "ff", "ff01", "ffff", "0200 02", "0200 0201", "40", "4002 00", "41 05 00000000"} {
		wantBad(t, "behind", 1, openOf(t, good+x), api.ErrForm)
		wantBad(t, "in a parameter behind", 1, openWith(t, item(2, unhex(t, good)), item(2, unhex(t, x))), api.ErrForm)
		wantBad(t, "in a parameter before", 1, openWith(t, item(2, unhex(t, x)), item(2, unhex(t, good))), api.ErrForm)
	}
	for _, x := range []string{"ffff", "0240", "0301"} {
		wantBad(t, "before", 1, openOf(t, x+good), api.ErrForm)
	}
	wantBad(t, "in two parameters", 1, openWith(t, item(2, unhex(t, "0104 0019")), item(2, unhex(t, "0046"+asText))), api.ErrForm)
}

// P6.3: there are a capability 1 for EVPN routes and a capability 0x41 of 4 bytes.
func TestOpenNeeds(t *testing.T) {
	for _, x := range []struct{ name, text string }{
		{"no routes", refreshText + asText},
		{"only AS", asText},
		{"routes of another family", "0104 00010001" + asText},
		{"routes with a reserved byte", "0104 00190146" + asText},
		{"routes of a like family", "0104 00180046" + asText},
		{"routes of a greater family", "0104 01190046" + asText},
		{"routes of a like kind", "0104 00190047" + asText},
		{"routes of another code", "0304 00190046" + asText},
		{"routes without bytes", "0100" + asText},
		{"routes with fewer bytes", "0103 001900" + asText},
		{"routes with more bytes", "0105 0019004600" + asText},
		{"routes that begin with a zero", "0105 0000190046" + asText},
		{"routes in two", "0102 0019 0102 0046" + asText},
		{"no AS", routesText + refreshText},
		{"only routes", routesText},
		{"AS of no bytes", routesText + "4100"},
		{"AS of two bytes", routesText + "4102 fde8"},
		{"AS of three bytes", routesText + "4103 00fde8"},
		{"AS of five bytes", routesText + "4105 000000fde8"},
		{"AS of eight bytes", routesText + "4108 0000fde80000fde8"},
		{"AS of another code", routesText + "4204 0000fde8"},
		{"nothing", refreshText},
	} {
		wantBad(t, x.name, 1, openOf(t, x.text), api.ErrForm)
	}
}

// P6.3: the AS number is that of the first capability 0x41 of 4 bytes.
func TestOpenNumbers(t *testing.T) {
	for _, x := range []struct {
		text string
		want uint32
	}{
		{"4104 00000000", 0},
		{"4104 01020304", 0x01020304},
		{"4104 ffffffff", math.MaxUint32},
		{"4104 00000001 4104 00000002", 1},
		{"4104 00000002 4104 00000001", 2},
		{"4104 00000000 4104 00000009", 0},
		{"4102 0007 4104 00000002 4104 00000001", 2},
		{"4100 4105 0000000009 4104 00000003", 3},
		{"4104 00000003 4102 0007", 3},
	} {
		want := plain
		want.AS = x.want
		wantBody(t, "AS", openOf(t, x.text+routesText), openMsg(want))
		wantBody(t, "AS", openWith(t, item(2, unhex(t, routesText)), item(2, unhex(t, x.text))), openMsg(want))
	}
	numbers := openWith(t, item(2, unhex(t, "4104 00000005")), item(2, unhex(t, "4104 00000006"+routesText)))
	wantBody(t, "AS in two parameters", numbers, openMsg(api.Open{AS: 5, Hold: 90, ID: 0x0aff0001}))
}

// P6.3: the first capability 0x40 says when the speaker restarts and whether it has; it has at least 2 bytes.
func TestOpenRestart(t *testing.T) {
	for _, x := range []struct {
		text      string
		restart   int
		restarted bool
	}{
		{"", 0, false},
		{"4002 0000", 0, false},
		{"4002 8000", 0, true},
		{"4002 0001", 1, false},
		{"4002 0fff", 4095, false},
		{"4002 8fff", 4095, true},
		{"4002 7000", 0, false},
		{"4002 f123", 0x123, true},
		{"4002 7123", 0x123, false},
		{"4003 012300", 0x123, false},
		{"4006 8078 00194680", 120, true},
		{"4006 0078 00010180", 120, false},
		{"400a 0078 00194680 00010180", 120, false},
		{"4006 0001 00194680 4006 8002 00194680", 1, false},
		{"4006 8002 00194680 4006 0001 00194680", 2, true},
		{"4002 0000 4002 8fff", 0, false},
		{"4002 0005 4000", 5, false},
		{"4002 0005 4001 ff", 5, false},
	} {
		want := plain
		want.Restart, want.Restarted = x.restart, x.restarted
		wantBody(t, x.text, openOf(t, routesText+asText+x.text), openMsg(want))
		wantBody(t, x.text+" before the others", openOf(t, x.text+asText+routesText), openMsg(want))
	}
	for _, text := range []string{"4000", "4001 00", "4001 ff", "4000 4002 0005", "4001 80 4006 8078 00194680"} {
		wantBad(t, text, 1, openOf(t, routesText+asText+text), api.ErrForm)
		wantBad(t, text+" before the others", 1, openOf(t, text+routesText+asText), api.ErrForm)
	}
	later := openWith(t, item(2, unhex(t, "4002 0007")), item(2, unhex(t, "4000"+routesText+asText)))
	wantBody(t, "restart in two parameters", later, openMsg(api.Open{AS: 65000, Hold: 90, ID: 0x0aff0001, Restart: 7}))
}

// P6.3: as many capabilities are read as an OPEN message has room for.
func TestOpenMany(t *testing.T) {
	many := slices.Repeat([]byte{2, 0}, 120)
	tail := unhex(t, routesText+asText)
	wantBody(t, "many", openWith(t, item(2, slices.Concat(many[:2*119], tail))), openMsg(plain))
	wantBody(t, "many parameters", openWith(t, many[:2*119], item(2, tail)), openMsg(plain))
	wantBad(t, "many without the others", 1, openWith(t, item(2, many)), api.ErrForm)
}

// update returns the body of an UPDATE message with attributes.
func update(attributes []byte) []byte {
	return append([]byte{0, 0, byte(len(attributes) >> 8), byte(len(attributes))}, attributes...)
}

// P6.3: an UPDATE message has no withdrawn routes before the attributes, and these take the rest.
func TestUpdateBody(t *testing.T) {
	good := update(unhex(t, "80 0f 16 001946"+floodText))
	want := api.Msg{Kind: 2, Unreach: flood}
	wantBody(t, "withdrawn", good, want)
	wantBody(t, "nothing", update(nil), api.Msg{Kind: 2})
	wantBody(t, "attributes without routes", update(unhex(t, "40 05 04 00000007")), api.Msg{Kind: 2})
	wantBody(t, "announced", update(unhex(t, "80 0e 1c 001946 04 00000009 00"+floodText+"40 02 00 40 01 01 01 80 63 01 00")),
		api.Msg{Kind: 2, A: api.Attrs{Origin: 1, Next: 9}, Reach: flood})
	for n := range 4 {
		wantBad(t, "short", 2, good[:n], api.ErrForm)
		wantBad(t, "short", 2, make([]byte, n), api.ErrForm)
	}
	for n := 4; n < len(good); n++ {
		wantBad(t, "cut off", 2, good[:n], api.ErrForm)
	}
	wantBad(t, "longer", 2, append(slices.Clone(good), 0), api.ErrForm)
	for i := range 4 {
		for _, value := range []byte{1, 2, 0x80, 0xff} {
			body := slices.Clone(good)
			body[i] += value
			wantBad(t, "another size", 2, body, api.ErrForm)
		}
	}
	wantBad(t, "withdrawn routes", 2, slices.Concat([]byte{0, 1, 7, 0, 6}, unhex(t, "80 0f 03 001946")), api.ErrForm)
	wantBad(t, "a size of 256 less", 2, slices.Concat([]byte{0, 0, 0, 0}, make([]byte, 256)), api.ErrForm)
}

// P6.3: an UPDATE message has the error of its attributes, at the position of the message.
func TestUpdateFaults(t *testing.T) {
	for _, text := range []string{"40 01 01", "80", "40 63 00", "80 01 01 00", "40 01 01 03", "40 01 01 00 40 01 01 00", "80 0f 02 0019",
		"80 0f 05 001946 03 00", "80 0e 1c 001946 04 00000009 00" + floodText, "40 05 04 00000001 40 05 04 00000001"} {
		attributes := unhex(t, text)
		_, _, _, fault := attr.Read(attributes)
		if fault.Err == api.OK {
			t.Errorf("the attributes %s have no fault", text)
		}
		wantBad(t, text, 2, update(attributes), fault.Err)
		body := update(attributes)
		body[1] = 1
		wantBad(t, text+" with withdrawn routes", 2, body, api.ErrForm)
	}
}

// P6.3: a NOTIFICATION message has two bytes that count, and perhaps more.
func TestNoticeBody(t *testing.T) {
	wantBad(t, "empty", 3, nil, api.ErrForm)
	for n := range 256 {
		wantBad(t, "short", 3, []byte{byte(n)}, api.ErrForm)
		want := api.Msg{Kind: 3, Code: n, Sub: 255 - n}
		body := []byte{byte(n), byte(255 - n)}
		wantBody(t, "notice", body, want)
		wantBody(t, "more", append(body, 7), want)
		wantBody(t, "much more", append(body, bytes.Repeat([]byte{0xff}, 300)...), want)
	}
}

// P6.3: a KEEPALIVE message has no bytes.
func TestAliveBody(t *testing.T) {
	wantBody(t, "empty", nil, api.Msg{Kind: 4})
	for _, n := range []int{1, 2, 4, 100, 4077} {
		wantBad(t, "with bytes", 4, make([]byte, n), api.ErrForm)
	}
}

// P6.3: a REFRESH message has four bytes, one of which may be anything.
func TestRefreshBody(t *testing.T) {
	good := []byte{0, 0x19, 0, 0x46}
	for i := range good {
		for value := range 256 {
			body := slices.Clone(good)
			body[i] = byte(value)
			if i == 2 || bytes.Equal(body, good) {
				wantBody(t, "refresh", body, api.Msg{Kind: 5})
			} else {
				wantBad(t, "another family", 5, body, api.ErrForm)
			}
		}
	}
	for n := range 4 {
		wantBad(t, "short", 5, good[:n], api.ErrForm)
		wantBad(t, "its end", 5, good[4-n:], api.ErrForm)
	}
	for _, n := range []int{1, 2, 4, 100} {
		wantBad(t, "longer", 5, append(slices.Clone(good), make([]byte, n)...), api.ErrForm)
		wantBad(t, "behind others", 5, append(make([]byte, n), good...), api.ErrForm)
	}
	wantBad(t, "twice", 5, slices.Concat(good, good), api.ErrForm)
}
