package msg

import (
	"bytes"
	"iter"

	"leafmesh/api"
	"leafmesh/attr"
	"leafmesh/wire"
)

// The number of bytes of an UPDATE message between its head and the attributes, that of the body of a REFRESH message, and the byte of it that means nothing.
const (
	updateBytes  = 4
	refreshBytes = 4
	reserved     = 0x0000ff00
)

// stream is bytes, of which those before the offset at have been read.
type stream struct {
	b  []byte
	at int
}

// Split reads the messages of a stream.
func Split(b []byte) (l []api.Msg, rest []byte, f api.Fault) {
	s := &stream{b: b}
	for m, fault := range s.messages() {
		if fault.Err != api.OK {
			return l, nil, fault
		}
		l = append(l, m)
	}
	return l, bytes.Clone(b[s.at:]), f
}

// messages visits the complete messages up to the first fault, and then that fault.
func (s *stream) messages() iter.Seq2[api.Msg, api.Fault] {
	return func(yield func(api.Msg, api.Fault) bool) {
		for len(s.b)-s.at >= headBytes {
			left := s.b[s.at:]
			m, size, err := readHead(left)
			if err == api.OK && size > len(left) {
				return
			}
			if err == api.OK {
				err = readBody(&m, left[headBytes:size])
			}
			if err != api.OK {
				yield(api.Msg{}, api.Fault{Err: err, At: s.at})
				return
			}
			if !yield(m, api.Fault{}) {
				return
			}
			s.at += size
		}
	}
}

// readHead returns a message with its kind, and the size of all of it. The message need not be complete, but b contains its head.
func readHead(b []byte) (m api.Msg, size int, err api.Errno) {
	r := wire.NewReader(b[:headBytes])
	begin := r.Bytes(len(marker))
	size = int(r.U16())
	m.Kind = int(r.U8())
	switch {
	case string(begin) != marker:
		err = api.ErrMark
	case size < headBytes || size > api.MaxMessage:
		err = api.ErrLong
	case !known(m.Kind):
		err = api.ErrType
	}
	return m, size, err
}

// readBody fills in what the body of a message says, by its kind.
func readBody(m *api.Msg, b []byte) (err api.Errno) {
	switch m.Kind {
	case api.MsgOpen:
		m.Open, err = readOpen(b)
	case api.MsgUpdate:
		err = readUpdate(m, b)
	case api.MsgNotice:
		r := wire.NewReader(b)
		m.Code, m.Sub = int(r.U8()), int(r.U8())
		err = formUnless(r.Fault().Err == api.OK)
	case api.MsgAlive:
		err = formUnless(len(b) == 0)
	case api.MsgRefresh:
		err = formUnless(len(b) == refreshBytes && wire.NewReader(b).U32()&^reserved == evpn)
	}
	return err
}

// readUpdate fills in what the body of an UPDATE message says.
func readUpdate(m *api.Msg, b []byte) api.Errno {
	r := wire.NewReader(b)
	withdrawn, size := r.U16(), int(r.U16())
	if r.Fault().Err != api.OK || withdrawn != 0 || size != r.Left() {
		return api.ErrForm
	}
	var fault api.Fault
	m.A, m.Reach, m.Unreach, fault = attr.Read(b[updateBytes:])
	return fault.Err
}

// formUnless returns the error of a body that is not of the right form.
func formUnless(is bool) api.Errno {
	if is {
		return api.OK
	}
	return api.ErrForm
}
