package wire

import (
	"bytes"

	"leafmesh/api"
)

// span is the positions of a reader: those of its first byte, of the next one, and of the end of its bytes.
type span struct{ first, next, end int }

// Reader reads numbers from bytes.
type Reader struct {
	span
	made  bool   // whether NewReader or Sub returned it
	data  []byte // the bytes from first to end
	fault api.Fault
}

// NewReader returns a reader.
func NewReader(b []byte) *Reader { return readerAt(0, b) }

// U8 reads a number of one byte.
func (r *Reader) U8() uint64 { return r.number(1) }

// U16 reads a number of two bytes.
func (r *Reader) U16() uint64 { return r.number(2) }

// U24 reads a number of three bytes.
func (r *Reader) U24() uint64 { return r.number(3) }

// U32 reads a number of four bytes.
func (r *Reader) U32() uint64 { return r.number(4) }

// U48 reads a number of six bytes.
func (r *Reader) U48() uint64 { return r.number(6) }

// U64 reads a number of eight bytes.
func (r *Reader) U64() uint64 { return r.number(8) }

// Bytes reads bytes.
func (r *Reader) Bytes(n int) []byte {
	return bytes.Clone(r.take(n))
}

// Sub returns a reader of the next bytes.
func (r *Reader) Sub(n int) *Reader {
	if !r.valid() {
		return nil
	}
	at := r.next
	sub := readerAt(at, r.take(n))
	sub.fault = r.fault
	return sub
}

// Left returns the number of bytes that are left.
func (r *Reader) Left() int {
	if !r.valid() {
		return 0
	}
	return r.left()
}

// At returns the position.
func (r *Reader) At() int {
	if !r.valid() {
		return 0
	}
	return r.next
}

// Fail sets the fault, unless there is one.
func (r *Reader) Fail(e api.Errno) {
	if !r.valid() || r.failed() || e == api.OK {
		return
	}
	r.fault = api.Fault{Err: e, At: r.next}
}

// Fault returns the first fault.
func (r *Reader) Fault() api.Fault {
	if !r.valid() {
		return api.Fault{Err: api.ErrNil}
	}
	return r.fault
}

// readerAt returns a reader of a copy of b, whose first byte has the position at.
func readerAt(at int, b []byte) *Reader {
	return &Reader{
		span: span{first: at, next: at, end: at + len(b)},
		made: true,
		data: bytes.Clone(b),
	}
}

func (r *Reader) valid() bool {
	return r != nil && r.made
}

func (r *Reader) failed() bool {
	return r.fault.Err != api.OK
}

// number reads a number of size bytes.
func (r *Reader) number(size int) uint64 {
	var n uint64
	for _, b := range r.take(size) {
		n = n<<8 | uint64(b)
	}
	return n
}

// take reads bytes, n of them, and returns them in the reader's own memory; it returns none if there is a fault, before or by this call.
func (r *Reader) take(n int) []byte {
	if !r.valid() {
		return nil
	}
	if n < 0 || n > r.left() {
		r.Fail(api.ErrShort)
	}
	if r.failed() {
		return nil
	}
	from, to := r.advance(n)
	return r.data[from:to]
}

// left returns the number of bytes between the next one and the end.
func (s *span) left() int {
	return s.end - s.next
}

// advance moves behind the next n bytes and returns the range that they have, counted from the first byte.
func (s *span) advance(n int) (from, to int) {
	from = s.next - s.first
	s.next += n
	return from, from + n
}
