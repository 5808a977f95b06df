package wire_test

import (
	"math"
	"testing"

	"leafmesh/api"
	"leafmesh/wire"
)

// mark opens a mark and checks its offset.
func mark(t *testing.T, w *wire.Writer, want int) {
	t.Helper()
	if at, err := w.Mark(); at != want || err != api.OK {
		t.Errorf("Mark = %d, %v, want %d", at, err, want)
	}
}

// P2.1, P2.2: the examples of the chapter.
func TestWriterExamples(t *testing.T) {
	w := newWriter(t, 65536)
	wantErr(t, w.U16(258), api.OK)
	wantErr(t, w.U24(1), api.OK)
	wantErr(t, w.U8(256), api.ErrRange)
	wantOut(t, w, 1, 2, 0, 0, 1)

	w = newWriter(t, 4)
	mark(t, w, 0)
	wantErr(t, w.U8(7), api.OK)
	wantErr(t, w.U8(8), api.OK)
	wantErr(t, w.U8(9), api.ErrFull)
	wantErr(t, w.Patch(0), api.OK)
	wantOut(t, w, 0, 2, 7, 8)
	wantErr(t, w.Patch(0), api.ErrMark)
	wantOut(t, w, 0, 2, 7, 8)
}

// P2.2: a mark is two zero bytes, wherever it is; it stays zero until it is patched.
func TestMark(t *testing.T) {
	w := newWriter(t, 20)
	mark(t, w, 0)
	wantErr(t, w.Bytes([]byte{1, 2, 3}), api.OK)
	mark(t, w, 5)
	mark(t, w, 7)
	wantErr(t, w.U8(4), api.OK)
	wantOut(t, w, 0, 0, 1, 2, 3, 0, 0, 0, 0, 4)
}

// P2.2: a mark needs two bytes; without them there is no mark, and nothing is written.
func TestMarkFull(t *testing.T) {
	for _, limit := range []int{2, 5, 65536} {
		for left := range 2 {
			w, b := fill(t, limit, left)
			if at, err := w.Mark(); at != 0 || err != api.ErrFull {
				t.Errorf("Mark = %d, %v", at, err)
			}
			wantErr(t, w.Patch(limit-left), api.ErrMark)
			wantErr(t, w.Patch(0), api.ErrMark)
			wantOut(t, w, b...)
		}
		w, b := fill(t, limit, 2)
		mark(t, w, limit-2)
		wantErr(t, w.Patch(limit-2), api.OK)
		wantOut(t, w, append(b, 0, 0)...)
	}
}

// P2.2: only the offset of an open mark can be patched; others change nothing, not even two zero bytes.
func TestPatchWithoutMark(t *testing.T) {
	w := newWriter(t, 20)
	wantErr(t, w.Patch(0), api.ErrMark)
	wantErr(t, w.U16(0), api.OK)
	mark(t, w, 2)
	wantErr(t, w.U32(0), api.OK)
	for at := -3; at < 25; at++ {
		if at != 2 {
			wantErr(t, w.Patch(at), api.ErrMark)
		}
	}
	for _, at := range []int{2 + 1<<16, 2 + 1<<32, math.MinInt, math.MaxInt} {
		wantErr(t, w.Patch(at), api.ErrMark)
	}
	wantOut(t, w, make([]byte, 8)...)
	wantErr(t, w.Patch(2), api.OK)
	wantOut(t, w, 0, 0, 0, 4, 0, 0, 0, 0)
}

// P2.2: a mark holds the number of bytes that follow it when it is patched, other marks among them; later bytes do not change it, and it is not open any more.
func TestPatch(t *testing.T) {
	w := newWriter(t, 20)
	wantErr(t, w.U8(9), api.OK)
	mark(t, w, 1)
	mark(t, w, 3)
	wantErr(t, w.Patch(3), api.OK)
	wantErr(t, w.U8(8), api.OK)
	mark(t, w, 6)
	wantErr(t, w.Patch(1), api.OK)
	wantErr(t, w.U24(0x030405), api.OK)
	wantErr(t, w.Patch(3), api.ErrMark)
	wantErr(t, w.Patch(1), api.ErrMark)
	wantErr(t, w.Patch(6), api.OK)
	wantErr(t, w.Patch(6), api.ErrMark)
	wantOut(t, w, 9, 0, 5, 0, 0, 8, 0, 3, 3, 4, 5)
}

// P2.2: the order in which marks are patched does not matter.
func TestPatchOrders(t *testing.T) {
	for _, order := range [][]int{{0, 3, 5}, {0, 5, 3}, {3, 0, 5}, {3, 5, 0}, {5, 0, 3}, {5, 3, 0}} {
		w := newWriter(t, 9)
		mark(t, w, 0)
		wantErr(t, w.U8(7), api.OK)
		mark(t, w, 3)
		mark(t, w, 5)
		wantErr(t, w.U16(0x0809), api.OK)
		for _, at := range order {
			wantErr(t, w.Patch(at), api.OK)
		}
		wantOut(t, w, 0, 7, 7, 0, 4, 0, 2, 8, 9)
	}
}

// P2.2: both bytes of a length are written, up to the greatest length that a limit allows.
func TestLongMarks(t *testing.T) {
	for _, n := range []int{255, 256, 257, 0x1234, 32767, 32768, 65533, 65534} {
		w := newWriter(t, 65536)
		mark(t, w, 0)
		wantErr(t, w.Bytes(make([]byte, n)), api.OK)
		wantErr(t, w.Patch(0), api.OK)
		want := make([]byte, 2+n)
		want[0], want[1] = byte(n/256), byte(n%256)
		wantOut(t, w, want...)
	}
}
