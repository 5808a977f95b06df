package msg

import (
	"cmp"

	"leafmesh/api"
	"leafmesh/attr"
	"leafmesh/wire"
)

// evpn is the address family of EVPN routes, in four bytes with a reserved one.
const evpn = 0x00190046

// The bodies of the messages: the fields that each kind uses.
type (
	openBody   struct{ api.Open }
	updateBody struct {
		a              api.Attrs
		reach, unreach []api.NLRI
	}
	noticeBody  struct{ code, sub int }
	aliveBody   struct{}
	refreshBody struct{}
)

// bodyOf returns the body of a message, and the message without the fields of that body.
func bodyOf(m api.Msg) (body any, others api.Msg) {
	switch m.Kind {
	case api.MsgOpen:
		body = openBody{m.Open}
		m.Open = api.Open{}
	case api.MsgUpdate:
		body = updateBody{m.A, m.Reach, m.Unreach}
		m.A, m.Reach, m.Unreach = api.Attrs{}, nil, nil
	case api.MsgNotice:
		body = noticeBody{m.Code, m.Sub}
		m.Code, m.Sub = 0, 0
	case api.MsgAlive:
		body = aliveBody{}
	case api.MsgRefresh:
		body = refreshBody{}
	}
	return body, m
}

// bodyBytes encodes a body, or returns why it is not valid.
func bodyBytes(body any) ([]byte, api.Errno) {
	w := newWriter(api.MaxMessage - headBytes)
	var err api.Errno
	switch x := body.(type) {
	case openBody:
		err = writeOpen(w, x.Open)
	case updateBody:
		err = writeUpdate(w, x)
	case noticeBody:
		// The writer finds a number that is not from 0 to 255: as an unsigned one it needs more than a byte.
		err = cmp.Or(w.U8(uint64(x.code)), w.U8(uint64(x.sub)))
	case aliveBody:
		// A message of this kind says all by its head.
	case refreshBody:
		err = w.U32(evpn)
	}
	if err != api.OK {
		return nil, err
	}
	return w.Out(), api.OK
}

// writeUpdate writes the body of an UPDATE message, unless it does not fit.
func writeUpdate(w *wire.Writer, x updateBody) api.Errno {
	b, err := attr.Bytes(x.a, x.reach, x.unreach)
	if err != api.OK {
		return err
	}
	// Withdrawn routes that are not among the attributes have no bytes.
	if cmp.Or(w.U16(0), w.U16(uint64(len(b))), w.Bytes(b)) != api.OK {
		return api.ErrLong
	}
	return api.OK
}
