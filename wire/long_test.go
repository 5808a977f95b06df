package wire

import (
	"testing"

	"leafmesh/api"
)

// P2.2: a length of more than two bytes gives ErrLong, and the mark stays open. NewWriter allows no limit with which that can happen, so this writer is made by hand.
func TestTooLongMark(t *testing.T) {
	for _, x := range []struct {
		n    int
		want api.Errno
	}{{65535, api.OK}, {65536, api.ErrLong}, {70000, api.ErrLong}} {
		w := &Writer{limit: 1 << 17, marks: map[int]struct{}{}}
		at, _ := w.Mark()
		if err := w.Bytes(make([]byte, x.n)); err != api.OK {
			t.Fatal(err)
		}
		if err := w.Patch(at + 1); err != api.ErrMark {
			t.Errorf("%d bytes: Patch without a mark gives %v", x.n, err)
		}
		if err := w.Patch(at); err != x.want {
			t.Errorf("%d bytes: Patch gives %v", x.n, err)
		}
		_, open := w.marks[at]
		if out := w.Out(); open != (x.want != api.OK) || open && (out[0] != 0 || out[1] != 0) {
			t.Errorf("%d bytes: open %v, mark % x", x.n, open, out[:2])
		}
	}
}
