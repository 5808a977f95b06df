package wire_test

import (
	"bytes"
	"math"
	"slices"
	"testing"

	"leafmesh/api"
	"leafmesh/wire"
)

// sizes are the sizes of numbers, with the methods that write and read them.
var sizes = []struct {
	bytes int
	write func(*wire.Writer, uint64) api.Errno
	read  func(*wire.Reader) uint64
}{
	{1, (*wire.Writer).U8, (*wire.Reader).U8},
	{2, (*wire.Writer).U16, (*wire.Reader).U16},
	{3, (*wire.Writer).U24, (*wire.Reader).U24},
	{4, (*wire.Writer).U32, (*wire.Reader).U32},
	{6, (*wire.Writer).U48, (*wire.Reader).U48},
	{8, (*wire.Writer).U64, (*wire.Reader).U64},
}

// newWriter returns a writer with a limit that is valid.
func newWriter(t *testing.T, limit int) *wire.Writer {
	t.Helper()
	w, err := wire.NewWriter(limit)
	if w == nil || err != api.OK {
		t.Fatalf("NewWriter(%d) = %v, %v", limit, w, err)
	}
	return w
}

// fill returns a writer with a limit that has this many bytes left.
func fill(t *testing.T, limit, left int) (*wire.Writer, []byte) {
	t.Helper()
	w, b := newWriter(t, limit), bytes.Repeat([]byte{0xee}, limit-left)
	wantErr(t, w.Bytes(b), api.OK)
	return w, b
}

// wantOut checks what a writer has written.
func wantOut(t *testing.T, w *wire.Writer, want ...byte) {
	t.Helper()
	if out := w.Out(); !bytes.Equal(out, want) || w.Len() != len(want) {
		t.Errorf("Out = % x, Len = %d, want % x", out, w.Len(), want)
	}
}

func wantErr(t *testing.T, got, want api.Errno) {
	t.Helper()
	if got != want {
		t.Errorf("got %v, want %v", got, want)
	}
}

// P2.1: limits from 0 to 65,536 give an empty writer, all others ErrRange and no writer.
func TestNewWriter(t *testing.T) {
	for _, limit := range []int{0, 1, 2, 4096, 65535, 65536} {
		wantOut(t, newWriter(t, limit))
	}
	for _, limit := range []int{-1, -2, -65536, 65537, 1 << 17, 1 << 32, math.MinInt, math.MaxInt} {
		if w, err := wire.NewWriter(limit); w != nil || err != api.ErrRange {
			t.Errorf("NewWriter(%d) = %v, %v", limit, w, err)
		}
	}
}

// P2.1: the numbers of all sizes, most significant byte first, one behind the other.
func TestNumbers(t *testing.T) {
	w := newWriter(t, 24)
	wantErr(t, w.U8(0x01), api.OK)
	wantErr(t, w.U16(0x0203), api.OK)
	wantErr(t, w.U24(0x040506), api.OK)
	wantErr(t, w.U32(0x0708090a), api.OK)
	wantErr(t, w.U48(0x0b0c0d0e0f10), api.OK)
	wantErr(t, w.U64(0x1112131415161718), api.OK)
	wantOut(t, w, 1, 2, 3, 4, 5, 6, 7, 8, 9, 10, 11, 12, 13, 14, 15, 16, 17, 18, 19, 20, 21, 22, 23, 24)
}

// P2.1: each bit of a number is written to its place; one bit more than fits gives ErrRange and writes nothing.
func TestBits(t *testing.T) {
	for _, size := range sizes {
		for bit := range 64 {
			w, err, want := newWriter(t, 8), api.ErrRange, []byte(nil)
			if bit < 8*size.bytes {
				err, want = api.OK, make([]byte, size.bytes)
				want[size.bytes-1-bit/8] = 1 << (bit % 8)
			}
			wantErr(t, size.write(w, 1<<bit), err)
			wantOut(t, w, want...)
		}
	}
}

// P2.1: the least and the greatest number of each size, and the first one that does not fit.
func TestNumberEdges(t *testing.T) {
	for _, size := range sizes {
		w := newWriter(t, 32)
		greatest := uint64(math.MaxUint64) >> (64 - 8*size.bytes)
		wantErr(t, size.write(w, 0), api.OK)
		wantErr(t, size.write(w, greatest), api.OK)
		want := append(make([]byte, size.bytes), bytes.Repeat([]byte{0xff}, size.bytes)...)
		if size.bytes < 8 {
			wantErr(t, size.write(w, greatest+1), api.ErrRange)
			wantErr(t, size.write(w, math.MaxUint64), api.ErrRange)
		}
		wantOut(t, w, want...)
	}
}

// P2.1: a number is written exactly if its bytes are left; otherwise the error is ErrFull and nothing changes.
func TestNumberFull(t *testing.T) {
	for _, size := range sizes {
		for left := range 10 {
			w, b := fill(t, 20, left)
			err := api.ErrFull
			if size.bytes <= left {
				err, b = api.OK, append(b, make([]byte, size.bytes)...)
			}
			wantErr(t, size.write(w, 0), err)
			wantOut(t, w, b...)
		}
	}
}

// P2.1, P1: a number that neither fits in its bytes nor in the writer gives ErrRange.
func TestRangeBeforeFull(t *testing.T) {
	w := newWriter(t, 0)
	for _, size := range sizes[:5] {
		wantErr(t, size.write(w, 1<<(8*size.bytes)), api.ErrRange)
	}
	wantOut(t, w)
}

// P2.1: bytes are written exactly if they are left, all or none of them; smaller ones can follow those that were refused.
func TestBytes(t *testing.T) {
	w := newWriter(t, 5)
	wantErr(t, w.Bytes([]byte{1, 2, 3}), api.OK)
	wantErr(t, w.Bytes([]byte{4, 5, 6}), api.ErrFull)
	wantOut(t, w, 1, 2, 3)
	wantErr(t, w.Bytes(nil), api.OK)
	wantErr(t, w.Bytes([]byte{7, 8}), api.OK)
	wantErr(t, w.Bytes([]byte{9}), api.ErrFull)
	wantOut(t, w, 1, 2, 3, 7, 8)
}

// P2.1: no bytes can be written to a writer that is full.
func TestNoBytes(t *testing.T) {
	for _, limit := range []int{0, 3} {
		w, b := fill(t, limit, 0)
		wantErr(t, w.Bytes(nil), api.OK)
		wantErr(t, w.Bytes([]byte{}), api.OK)
		wantOut(t, w, b...)
	}
}

// P2.1: the greatest limit can be reached, and no limit exceeded.
func TestLimits(t *testing.T) {
	for _, limit := range []int{0, 1, 4096, 65535, 65536} {
		wantErr(t, newWriter(t, limit).Bytes(make([]byte, limit+1)), api.ErrFull)
		w, b := fill(t, limit, 0)
		for _, size := range sizes {
			wantErr(t, size.write(w, 0), api.ErrFull)
		}
		wantErr(t, w.Bytes([]byte{0}), api.ErrFull)
		wantOut(t, w, b...)
	}
}

// R4: a writer neither changes nor keeps the bytes that it is given, and what it returns is a copy.
func TestWriterSharesNothing(t *testing.T) {
	w, b := newWriter(t, 10), make([]byte, 3, 10)
	copy(b, []byte{1, 2, 3})
	wantErr(t, w.Bytes(b), api.OK)
	clear(b)
	wantOut(t, w, 1, 2, 3)
	first, second := w.Out(), w.Out()
	clear(first)
	if !slices.Equal(second, []byte{1, 2, 3}) {
		t.Errorf("the second result is % x", second)
	}
	first = append(first, 9)
	wantErr(t, w.U8(4), api.OK)
	wantOut(t, w, 1, 2, 3, 4)
	if first[3] != 9 {
		t.Errorf("the first result is % x", first)
	}
}

// R2, P2.1, P2.2: a nil writer and a zero one stay invalid, and ErrNil comes before the other errors.
func TestInvalidWriters(t *testing.T) {
	for _, w := range []*wire.Writer{nil, {}, new(wire.Writer)} {
		for _, size := range sizes {
			wantErr(t, size.write(w, 0), api.ErrNil)
			wantErr(t, size.write(w, math.MaxUint64), api.ErrNil)
		}
		wantErr(t, w.Bytes(nil), api.ErrNil)
		wantErr(t, w.Bytes([]byte{1}), api.ErrNil)
		if at, err := w.Mark(); at != 0 || err != api.ErrNil {
			t.Errorf("Mark = %d, %v", at, err)
		}
		wantErr(t, w.Patch(0), api.ErrNil)
		wantErr(t, w.Patch(-1), api.ErrNil)
		if n, out := w.Len(), w.Out(); n != 0 || out != nil {
			t.Errorf("Len = %d, Out = %v", n, out)
		}
	}
}

// P2: writers do not depend on each other.
func TestTwoWriters(t *testing.T) {
	a, b := newWriter(t, 4), newWriter(t, 4)
	mark(t, a, 0)
	wantErr(t, b.U16(0x0102), api.OK)
	wantErr(t, b.Patch(0), api.ErrMark)
	wantErr(t, a.U16(0x0304), api.OK)
	wantErr(t, a.Patch(0), api.OK)
	wantOut(t, a, 0, 2, 3, 4)
	wantOut(t, b, 1, 2)
}
