// Package wire is layer 2: see shared/doc/02-wire.md.
package wire

import (
	"bytes"

	"leafmesh/api"
)

// maxLimit is the greatest limit of a writer.
const maxLimit = 1 << 16

// The number of bytes of a mark, and the greatest length that they hold.
const (
	markBytes = 2
	maxLength = 1<<(8*markBytes) - 1
)

// unsigned is the types of the numbers that are written.
type unsigned interface {
	uint | uint8 | uint16 | uint32 | uint64
}

// Writer appends numbers to a buffer.
type Writer struct {
	limit int
	out   []byte
	marks map[int]struct{} // the offsets of the open marks; nil for an invalid writer
}

// NewWriter returns an empty writer.
func NewWriter(limit int) (*Writer, api.Errno) {
	if limit < 0 || limit > maxLimit {
		return nil, api.ErrRange
	}
	return &Writer{limit: limit, marks: map[int]struct{}{}}, api.OK
}

// U8 appends a number of one byte.
func (w *Writer) U8(n uint64) api.Errno { return w.number(n, 1) }

// U16 appends a number of two bytes.
func (w *Writer) U16(n uint64) api.Errno { return w.number(n, 2) }

// U24 appends a number of three bytes.
func (w *Writer) U24(n uint64) api.Errno { return w.number(n, 3) }

// U32 appends a number of four bytes.
func (w *Writer) U32(n uint64) api.Errno { return w.number(n, 4) }

// U48 appends a number of six bytes.
func (w *Writer) U48(n uint64) api.Errno { return w.number(n, 6) }

// U64 appends a number of eight bytes.
func (w *Writer) U64(n uint64) api.Errno { return w.number(n, 8) }

// Bytes appends bytes.
func (w *Writer) Bytes(b []byte) api.Errno {
	part, err := w.extend(len(b))
	copy(part, b)
	return err
}

// Mark reserves two bytes for a length.
func (w *Writer) Mark() (int, api.Errno) {
	at := w.Len()
	if _, err := w.extend(markBytes); err != api.OK {
		return 0, err
	}
	w.marks[at] = struct{}{}
	return at, api.OK
}

// Patch writes a length into a mark.
func (w *Writer) Patch(at int) api.Errno {
	if !w.valid() {
		return api.ErrNil
	}
	if _, open := w.marks[at]; !open {
		return api.ErrMark
	}
	body := at + markBytes
	length := len(w.out) - body
	// A limit of at most maxLimit leaves no room for so many bytes; the chapter asks for the check all the same.
	if length > maxLength {
		return api.ErrLong
	}
	store(w.out[at:body], uint16(length))
	delete(w.marks, at)
	return api.OK
}

// Len returns the number of bytes written.
func (w *Writer) Len() int {
	if !w.valid() {
		return 0
	}
	return len(w.out)
}

// Out returns the bytes written.
func (w *Writer) Out() []byte {
	if !w.valid() {
		return nil
	}
	return bytes.Clone(w.out)
}

func (w *Writer) valid() bool {
	return w != nil && w.marks != nil
}

// number appends the lowest bytes of a number, size of them, if no other byte is set.
func (w *Writer) number(n uint64, size int) api.Errno {
	if w.valid() && n>>(8*size) != 0 {
		return api.ErrRange
	}
	part, err := w.extend(size)
	store(part, n)
	return err
}

// extend appends zero bytes, size of them, and returns them for the caller to fill; with an error it returns none.
func (w *Writer) extend(size int) ([]byte, api.Errno) {
	if !w.valid() {
		return nil, api.ErrNil
	}
	at := len(w.out)
	if size > w.limit-at {
		return nil, api.ErrFull
	}
	w.out = append(w.out, make([]byte, size)...)
	return w.out[at:], api.OK
}

// store fills b with the lowest bytes of a number, the most significant one of them first.
func store[N unsigned](b []byte, n N) {
	for i := range b {
		b[len(b)-1-i] = byte(n >> (8 * i))
	}
}
