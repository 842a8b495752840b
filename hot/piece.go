package hot

import (
	"bytes"

	"icehouse/api"
	"icehouse/dev"
	"icehouse/piece"
)

// Pack payloads for a tape, from a place on: the bytes, and where each one stands.
func Pack(at int, ids []int, bodies [][]byte) ([]byte, []api.Piece, api.Errno) {
	if at < 0 || at > api.MaxVolume {
		return nil, nil, api.ErrRange
	}
	if len(ids) != len(bodies) {
		return nil, nil, api.ErrForm
	}
	var out []byte
	var l []api.Piece
	for i, b := range bodies {
		p := api.Piece{Id: ids[i], At: at + len(out), Size: len(b)}
		switch {
		case !isId(p.Id):
			return nil, nil, api.ErrRange
		case !isSize(p.Size):
			return nil, nil, api.ErrSize
		}
		out = append(append(out, piece.HeadOf(p)...), b...)
		l = append(l, p)
	}
	return out, l, api.OK
}

// Fetch a payload from a tape: it must be the one that is meant.
func Fetch(g api.Geometry, d api.Devices, v int, p api.Piece) ([]byte, api.Errno) {
	if !isId(p.Id) || !isSize(p.Size) {
		return nil, api.ErrRange
	}
	b, e := dev.Fetch(g, d, v, p.At, piece.Size(p.Size))
	if e != api.OK {
		return nil, e
	}
	if !bytes.Equal(b[:piece.Head], piece.HeadOf(p)) {
		return nil, api.ErrForm
	}
	return b[piece.Head:], api.OK
}

// isId: may a version have this number?
func isId(n int) bool { return n >= 1 && n <= api.MaxNumber }
