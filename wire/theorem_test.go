package wire_test

import (
	"math"
	"math/rand"
	"testing"

	"leafmesh/api"
	"leafmesh/wire"
)

// P2.4: numbers, bytes and lengths that are written are read back in the same order.
func TestWrittenIsRead(t *testing.T) {
	random := rand.New(rand.NewSource(1))
	for range 300 {
		w := newWriter(t, 65536)
		var kinds []int
		var numbers []uint64
		for range random.Intn(60) {
			kind := random.Intn(len(sizes))
			n := random.Uint64() >> random.Intn(64) & (math.MaxUint64 >> (64 - 8*sizes[kind].bytes))
			wantErr(t, sizes[kind].write(w, n), api.OK)
			kinds, numbers = append(kinds, kind), append(numbers, n)
		}
		r := wire.NewReader(w.Out())
		for i, kind := range kinds {
			wantNumber(t, sizes[kind].read(r), numbers[i])
		}
		wantReader(t, r, w.Len(), 0, api.Fault{})
	}
}

// P2.4: a length that Patch writes is the one that Sub needs.
func TestLengthIsRead(t *testing.T) {
	w := newWriter(t, 100)
	mark(t, w, 0)
	wantErr(t, w.Bytes([]byte{1, 2, 3}), api.OK)
	mark(t, w, 5)
	wantErr(t, w.U32(4), api.OK)
	wantErr(t, w.Patch(5), api.OK)
	wantErr(t, w.Patch(0), api.OK)
	r := wire.NewReader(w.Out())
	outer := r.Sub(int(r.U16()))
	wantReader(t, r, 11, 0, api.Fault{})
	wantBytes(t, outer.Bytes(3), 1, 2, 3)
	inner := outer.Sub(int(outer.U16()))
	wantReader(t, outer, 11, 0, api.Fault{})
	wantNumber(t, inner.U32(), 4)
	wantReader(t, inner, 11, 0, api.Fault{})
}

// P2.5: the readers of consecutive lengths read together the bytes that the reader itself would have read, from the same positions.
func TestSubsReadAll(t *testing.T) {
	random := rand.New(rand.NewSource(2))
	for range 300 {
		b := make([]byte, random.Intn(40))
		random.Read(b)
		r := wire.NewReader(b)
		var together []byte
		for r.Left() > 0 {
			n := random.Intn(r.Left() + 1)
			s := r.Sub(n)
			wantReader(t, s, len(together), n, api.Fault{})
			together = append(together, s.Bytes(n)...)
		}
		wantReader(t, r, len(b), 0, api.Fault{})
		wantBytes(t, together, wire.NewReader(b).Bytes(len(b))...)
	}
}

// P2.5: a reader of the bytes of a number reads the number that the reader itself would have read.
func TestSubsReadNumbers(t *testing.T) {
	random := rand.New(rand.NewSource(3))
	b := make([]byte, 1000)
	random.Read(b)
	whole, split := wire.NewReader(b), wire.NewReader(b)
	for whole.Left() >= 8 {
		size := sizes[random.Intn(len(sizes))]
		s := split.Sub(size.bytes)
		wantNumber(t, size.read(s), size.read(whole))
		wantReader(t, s, whole.At(), 0, api.Fault{})
	}
	wantReader(t, split, whole.At(), whole.Left(), api.Fault{})
}

// P2.5: faults of readers that Sub returned do not change the reader, nor each other; its own fault does not change them.
func TestSubFaults(t *testing.T) {
	r := wire.NewReader(count(8))
	first, second, third := r.Sub(2), r.Sub(3), r.Sub(1)
	first.Fail(api.ErrForm)
	wantNumber(t, second.U32(), 0)
	wantReader(t, first, 0, 2, api.Fault{Err: api.ErrForm})
	wantReader(t, second, 2, 3, api.Fault{Err: api.ErrShort, At: 2})
	wantReader(t, r, 6, 2, api.Fault{})
	wantNumber(t, r.U8(), 7)
	wantNumber(t, r.U16(), 0)
	wantReader(t, r, 7, 1, api.Fault{Err: api.ErrShort, At: 7})
	wantReader(t, third, 5, 1, api.Fault{})
	wantNumber(t, third.U8(), 6)
}
