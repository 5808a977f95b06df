package nlri

import (
	"bytes"
	"iter"

	"leafmesh/api"
	"leafmesh/wire"
)

// The bytes of an encoded route: those before its value, and the most that its value has.
const (
	headBytes = 2
	maxValue  = 40
)

// Bytes encodes a route.
func Bytes(n api.NLRI) ([]byte, api.Errno) {
	if err := Check(n); err != api.OK {
		return nil, err
	}
	l, _ := layoutOf(n.Kind)
	value, _ := wire.NewWriter(maxValue)
	l.write(value, n)
	return append([]byte{byte(n.Kind), byte(value.Len())}, value.Out()...), api.OK
}

// Read decodes routes.
func Read(b []byte) ([]api.NLRI, api.Fault) {
	var list []api.NLRI
	for at, piece := range pieces(b) {
		if len(list) == api.MaxRoutes {
			return nil, api.Fault{Err: api.ErrFull, At: at}
		}
		n, err := readRoute(piece)
		if err != api.OK {
			return nil, api.Fault{Err: err, At: at}
		}
		list = append(list, n)
	}
	return list, api.Fault{}
}

// pieces visits the bytes of the encoded routes in b with their offsets; the last of them may end too early.
func pieces(b []byte) iter.Seq2[int, []byte] {
	return func(yield func(int, []byte) bool) {
		for at := 0; at < len(b); {
			end := pieceEnd(b, at)
			if !yield(at, b[at:end]) {
				return
			}
			at = end
		}
	}
}

// pieceEnd returns where the encoded route at an offset ends: at the latest where b does.
func pieceEnd(b []byte, at int) int {
	if len(b)-at < headBytes {
		return len(b)
	}
	return min(len(b), at+headBytes+int(b[at+1]))
}

// readRoute decodes one route, which is all that b contains.
func readRoute(b []byte) (api.NLRI, api.Errno) {
	r := wire.NewReader(b)
	kind := int(r.U8())
	value := r.Sub(int(r.U8()))
	if r.Fault().Err != api.OK {
		return api.NLRI{}, api.ErrShort
	}
	l, known := layoutOf(kind)
	if !known {
		return api.NLRI{}, api.ErrType
	}
	n := l.read(value)
	// Comparing with what would be written finds all that reading passes over: other sizes, other constant bytes, fields out of range.
	if back, err := Bytes(n); err != api.OK || !bytes.Equal(back, b) {
		return api.NLRI{}, api.ErrForm
	}
	return n, api.OK
}
