package ring

import (
	"icehouse/api"
	"icehouse/dev"
)

// Open a journal: the snapshot, and the transactions behind it.
func Open(g api.Geometry, d api.Devices) (api.Devices, api.Journal, []byte, [][]byte, api.Errno) {
	if e := dev.Check(g, d); e != api.OK {
		return api.Devices{}, api.Journal{}, nil, nil, e
	}
	j, counts := newest(g, d)
	if !counts {
		return api.Devices{}, api.Journal{}, nil, nil, api.ErrForm
	}
	if j.Gen == api.MaxNumber || j.Epoch == api.MaxNumber {
		return api.Devices{}, api.Journal{}, nil, nil, api.ErrFull
	}
	snapshot := snapshotOf(g, d, j)
	j, l := transactionsOf(g, d, j)
	// In an epoch of its own: what is left of a transaction that is not whole must not fit what is committed from now on.
	j.Gen++
	j.Epoch++
	out, j, e := doneTo(g, d, j, putSuperblock(j), dev.Flush)
	if e != api.OK {
		return out, api.Journal{}, nil, nil, e
	}
	return out, j, snapshot, l, api.OK
}

// snapshotOf a journal.
func snapshotOf(g api.Geometry, d api.Devices, j api.Journal) []byte {
	out := make([]byte, j.Length)
	for i := range piecesOf(j.Length, api.Sector) {
		copy(piece(out, i, api.Sector), read(g, d, areaSector(g, j.Area, i)))
	}
	return out
}

// transactionsOf a journal, as long as they stand whole in the ring; and the journal behind them.
func transactionsOf(g api.Geometry, d api.Devices, j api.Journal) (api.Journal, [][]byte) {
	var l [][]byte
	epoch := 0
	for j.Next < api.MaxNumber {
		frames := transactionAt(g, d, j)
		if len(frames) == 0 || frames[0].epoch < epoch {
			break
		}
		epoch = frames[0].epoch
		var b []byte
		for _, f := range frames {
			b = append(b, f.data...)
		}
		l = append(l, b)
		j = behind(g, j, len(frames))
	}
	return j, l
}

// transactionAt the place of a journal, with the number that is next: its frames; none, if it is not whole.
func transactionAt(g api.Geometry, d api.Devices, j api.Journal) []frame {
	var l []frame
	for i := range g.Ring - j.Used {
		f, is := frameOf(read(g, d, ringSector(g, j.Place+i)))
		if !is || f.number != j.Next || f.index != i {
			return nil
		}
		l = append(l, f)
		if f.epoch != l[0].epoch {
			return nil
		}
		if f.last {
			return l
		}
	}
	return nil
}
