package ring

import (
	"icehouse/api"
	"icehouse/number"
)

// head of a frame: so many bytes stand ahead of those of the transaction.
const head = api.Sector - api.Frame

// frame of a transaction.
type frame struct {
	epoch, number, index int
	last                 bool
	data                 []byte
}

// framesFor so many bytes: one without any says that there are none.
func framesFor(bytes int) int { return max(1, piecesOf(bytes, api.Frame)) }

// frameBytes: those of its sector.
func frameBytes(f frame) []byte {
	last := 0
	if f.last {
		last = 1
	}
	b := number.Append(nil, f.epoch, 4)
	b = number.Append(b, f.number, 4)
	b = number.Append(b, f.index, 1)
	b = number.Append(b, last, 1)
	b = number.Append(b, len(f.data), 2)
	return append(b, f.data...)
}

// frameOf the bytes of a sector; false: they are none.
func frameOf(b []byte) (frame, bool) {
	last, length := number.Of(b[9:10]), number.Of(b[10:head])
	if last > 1 || length > api.Frame || last == 0 && length < api.Frame {
		return frame{}, false
	}
	return frame{
		epoch:  number.Of(b[0:4]),
		number: number.Of(b[4:8]),
		index:  number.Of(b[8:9]),
		last:   last == 1,
		data:   b[head : head+length],
	}, true
}
