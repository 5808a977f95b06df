package wire_test

import (
	"bytes"
	"math"
	"testing"

	"leafmesh/api"
	"leafmesh/wire"
)

// count returns the bytes 1 to n.
func count(n int) []byte {
	b := make([]byte, n)
	for i := range b {
		b[i] = byte(i + 1)
	}
	return b
}

// skip returns a reader of n bytes that has read some of them.
func skip(t *testing.T, n, read int) *wire.Reader {
	t.Helper()
	r := wire.NewReader(count(n))
	if b := r.Bytes(read); len(b) != read {
		t.Fatalf("Bytes(%d) = % x", read, b)
	}
	return r
}

// wantReader checks the position, the number of bytes that are left, and the fault of a reader.
func wantReader(t *testing.T, r *wire.Reader, at, left int, fault api.Fault) {
	t.Helper()
	if r.At() != at || r.Left() != left || r.Fault() != fault {
		t.Errorf("At = %d, Left = %d, Fault = %v, want %d, %d, %v", r.At(), r.Left(), r.Fault(), at, left, fault)
	}
}

// wantStuck checks that a reader with a fault reads nothing more, whatever is left, and stays as it is.
func wantStuck(t *testing.T, r *wire.Reader) {
	t.Helper()
	at, left, fault := r.At(), r.Left(), r.Fault()
	if fault.Err == api.OK {
		t.Error("there is no fault")
	}
	for _, size := range sizes {
		wantNumber(t, size.read(r), 0)
	}
	for _, n := range []int{0, 1, left, left + 1, -1, math.MinInt, math.MaxInt} {
		wantBytes(t, r.Bytes(n))
		wantReader(t, r.Sub(n), at, 0, fault)
	}
	r.Fail(fault.Err + 1)
	r.Fail(api.OK)
	wantReader(t, r, at, left, fault)
}

func wantNumber(t *testing.T, got, want uint64) {
	t.Helper()
	if got != want {
		t.Errorf("got %#x, want %#x", got, want)
	}
}

func wantBytes(t *testing.T, got []byte, want ...byte) {
	t.Helper()
	if !bytes.Equal(got, want) {
		t.Errorf("got % x, want % x", got, want)
	}
}

// P2.3: the examples of the chapter.
func TestReaderExamples(t *testing.T) {
	r := wire.NewReader([]byte{1, 2, 3})
	wantNumber(t, r.U16(), 258)
	wantNumber(t, r.U16(), 0)
	wantNumber(t, r.U8(), 0)
	wantReader(t, r, 2, 1, api.Fault{Err: api.ErrShort, At: 2})

	r = wire.NewReader([]byte{1, 2, 3, 4})
	wantNumber(t, r.U8(), 1)
	s := r.Sub(2)
	wantNumber(t, s.U8(), 2)
	wantReader(t, s, 2, 1, api.Fault{})
	wantNumber(t, s.U16(), 0)
	wantReader(t, s, 2, 1, api.Fault{Err: api.ErrShort, At: 2})
	wantNumber(t, r.U8(), 4)
	wantReader(t, r, 4, 0, api.Fault{})
}

// P2.3: numbers of all sizes, most significant byte first, one behind the other.
func TestReadNumbers(t *testing.T) {
	r := wire.NewReader(count(24))
	wantReader(t, r, 0, 24, api.Fault{})
	at := 0
	for i, want := range []uint64{0x01, 0x0203, 0x040506, 0x0708090a, 0x0b0c0d0e0f10, 0x1112131415161718} {
		wantNumber(t, sizes[i].read(r), want)
		at += sizes[i].bytes
		wantReader(t, r, at, 24-at, api.Fault{})
	}
}

// P2.3: bytes are read as numbers without sign.
func TestReadGreatest(t *testing.T) {
	for _, size := range sizes {
		r := wire.NewReader(bytes.Repeat([]byte{0xff}, size.bytes))
		wantNumber(t, size.read(r), math.MaxUint64>>(64-8*size.bytes))
		wantReader(t, r, size.bytes, 0, api.Fault{})
	}
}

// P2.3: if fewer bytes are left than a number needs, the reader stops with ErrShort at its position.
func TestShortNumbers(t *testing.T) {
	for _, size := range sizes {
		for left := range size.bytes {
			r := skip(t, 5+left, 5)
			wantNumber(t, size.read(r), 0)
			wantReader(t, r, 5, left, api.Fault{Err: api.ErrShort, At: 5})
			wantStuck(t, r)
		}
	}
}

// P2.3: a reader without bytes has no fault until something is read.
func TestNothing(t *testing.T) {
	for _, b := range [][]byte{nil, {}} {
		r := wire.NewReader(b)
		wantReader(t, r, 0, 0, api.Fault{})
		wantBytes(t, r.Bytes(0))
		wantReader(t, r.Sub(0), 0, 0, api.Fault{})
		wantReader(t, r, 0, 0, api.Fault{})
		wantNumber(t, r.U8(), 0)
		wantReader(t, r, 0, 0, api.Fault{Err: api.ErrShort})
		wantStuck(t, r)
	}
}

// P2.3: Bytes returns the next bytes, none of them too.
func TestReadBytes(t *testing.T) {
	r := wire.NewReader(count(6))
	wantBytes(t, r.Bytes(2), 1, 2)
	wantReader(t, r, 2, 4, api.Fault{})
	wantBytes(t, r.Bytes(0))
	wantReader(t, r, 2, 4, api.Fault{})
	wantBytes(t, r.Bytes(3), 3, 4, 5)
	wantNumber(t, r.U8(), 6)
	wantBytes(t, r.Bytes(0))
	wantReader(t, r, 6, 0, api.Fault{})
}

// P2.3: a length that is negative or too great is ErrShort, for Bytes and for Sub, whose reader has the same fault and no bytes.
func TestBadLengths(t *testing.T) {
	short := api.Fault{Err: api.ErrShort, At: 2}
	for _, n := range []int{-1, -2, math.MinInt, 4, 5, 1 << 32, math.MaxInt - 1, math.MaxInt} {
		r := skip(t, 5, 2)
		wantBytes(t, r.Bytes(n))
		wantReader(t, r, 2, 3, short)
		wantStuck(t, r)

		r = skip(t, 5, 2)
		s := r.Sub(n)
		wantReader(t, s, 2, 0, short)
		wantReader(t, r, 2, 3, short)
		wantStuck(t, s)
		wantStuck(t, r)
	}
}

// P2.3: Sub returns a reader of just the next bytes, none of them too, whose positions are those of the first reader.
func TestSub(t *testing.T) {
	r := skip(t, 9, 3)
	for _, n := range []int{0, 4, 2, 0} {
		at := r.At()
		s := r.Sub(n)
		wantReader(t, s, at, n, api.Fault{})
		wantReader(t, r, at+n, 9-at-n, api.Fault{})
		wantBytes(t, s.Bytes(n), count(9)[at:at+n]...)
		wantReader(t, s, at+n, 0, api.Fault{})
		wantNumber(t, s.U8(), 0)
		wantReader(t, s, at+n, 0, api.Fault{Err: api.ErrShort, At: at + n})
		wantStuck(t, s)
	}
	wantReader(t, r, 9, 0, api.Fault{})
}

// P2.3: the positions of readers within readers are those in the bytes that were passed to NewReader.
func TestSubOfSub(t *testing.T) {
	r := skip(t, 10, 2)
	s := r.Sub(7)
	wantNumber(t, s.U8(), 3)
	u := s.Sub(4)
	wantReader(t, u, 3, 4, api.Fault{})
	wantNumber(t, u.U16(), 0x0405)
	v := u.Sub(1)
	wantReader(t, v, 5, 1, api.Fault{})
	wantNumber(t, v.U8(), 6)
	v.Fail(api.ErrForm)
	wantReader(t, v, 6, 0, api.Fault{Err: api.ErrForm, At: 6})
	wantNumber(t, u.U8(), 7)
	wantNumber(t, s.U8(), 8)
	wantNumber(t, r.U8(), 10)
}

// P2.3: Fail sets any error but OK, at the position, once.
func TestFail(t *testing.T) {
	for _, e := range []api.Errno{api.ErrNil, api.ErrShort, api.ErrTime, 99, -1, math.MinInt, math.MaxInt} {
		r := skip(t, 4, 3)
		r.Fail(api.OK)
		wantReader(t, r, 3, 1, api.Fault{})
		r.Fail(e)
		wantReader(t, r, 3, 1, api.Fault{Err: e, At: 3})
		wantStuck(t, r)
		s := r.Sub(1)
		wantReader(t, s, 3, 0, api.Fault{Err: e, At: 3})
		wantStuck(t, s)
	}
}

// P2.3: the first fault stays, also if bytes are missing afterwards.
func TestFirstFault(t *testing.T) {
	r := skip(t, 1, 1)
	r.Fail(api.ErrForm)
	wantNumber(t, r.U8(), 0)
	wantReader(t, r, 1, 0, api.Fault{Err: api.ErrForm, At: 1})
	r = skip(t, 1, 1)
	wantNumber(t, r.U8(), 0)
	r.Fail(api.ErrForm)
	wantReader(t, r, 1, 0, api.Fault{Err: api.ErrShort, At: 1})
}

// R2, P2.3: a nil reader and a zero one stay invalid, whatever is called.
func TestInvalidReaders(t *testing.T) {
	for _, r := range []*wire.Reader{nil, {}, new(wire.Reader)} {
		r.Fail(api.ErrForm)
		r.Fail(api.OK)
		for _, size := range sizes {
			wantNumber(t, size.read(r), 0)
		}
		for _, n := range []int{0, 1, -1, math.MinInt, math.MaxInt} {
			if b, s := r.Bytes(n), r.Sub(n); b != nil || s != nil {
				t.Errorf("Bytes = %v, Sub = %v", b, s)
			}
		}
		wantReader(t, r, 0, 0, api.Fault{Err: api.ErrNil})
	}
}

// P2.3, R4: a reader reads from a copy, and its results share no memory with it or with each other.
func TestReaderSharesNothing(t *testing.T) {
	b := count(6)
	r := wire.NewReader(b)
	clear(b)
	s := r.Sub(4)
	first, second := s.Bytes(2), s.Bytes(2)
	wantBytes(t, append(first, 9, 9), 1, 2, 9, 9)
	wantBytes(t, second, 3, 4)
	clear(second)
	third := r.Bytes(1)
	wantBytes(t, append(third, 7), 5, 7)
	wantNumber(t, r.U8(), 6)
	wantBytes(t, b, 0, 0, 0, 0, 0, 0)
}
