package store

import (
	"icehouse/api"
	"icehouse/code"
	"icehouse/hot"
	"icehouse/ring"
	"icehouse/state"
)

// record changes of the state: all of them, as one transaction, or none.
func (h *house) record(l ...api.Record) api.Errno {
	s, e := behind(h.s, l...)
	if e != api.OK {
		return e
	}
	b, e := code.Encode(l)
	if e != api.OK {
		return e
	}
	e = h.commit(b)
	if e == api.ErrFull {
		// What is in the ring is in the snapshot then, and gives way.
		if e = h.save(); e == api.OK {
			e = h.commit(b)
		}
	}
	if e == api.OK {
		h.s = s
	}
	return e
}

// behind: the state that records, one by one, make of a state.
func behind(s api.State, l ...api.Record) (api.State, api.Errno) {
	for _, r := range l {
		next, e := state.Apply(s, r)
		if e != api.OK {
			return api.State{}, e
		}
		s = next
	}
	return s, api.OK
}

// spare sectors for so many bytes.
func (h *house) spare(bytes int) ([]int, api.Errno) {
	l, e := state.Free(h.s, h.g.Hot)
	if e != api.OK {
		return nil, e
	}
	n := state.Sectors(bytes)
	if n > len(l) {
		return nil, api.ErrFull
	}
	// Who appends to these does not reach the free ones behind them.
	return l[:n:n], api.OK
}

// store bytes in spare sectors, with records that tell of them.
func (h *house) store(b []byte, spare []int, l ...api.Record) api.Errno {
	// Nothing is written for records that would be refused.
	if _, e := behind(h.s, l...); e != api.OK {
		return e
	}
	if e := h.became(hot.Write(h.g, h.d, spare, b)); e != api.OK {
		return e
	}
	return h.record(l...)
}

// commit bytes as a transaction.
func (h *house) commit(b []byte) api.Errno {
	return h.journaled(ring.Commit(h.g, h.d, h.j, b))
}

// save a snapshot of the state.
func (h *house) save() api.Errno {
	b, e := code.EncodeState(h.s)
	if e != api.OK {
		return e
	}
	return h.journaled(ring.Save(h.g, h.d, h.j, b))
}

// journaled: what came of the devices and the journal.
func (h *house) journaled(d api.Devices, j api.Journal, e api.Errno) api.Errno {
	if e = h.became(d, e); e == api.OK {
		h.j = j
	}
	return e
}

// became: what came of the devices. When they died, nothing else is known any more.
func (h *house) became(d api.Devices, e api.Errno) api.Errno {
	switch e {
	case api.OK:
		h.d = d
	case api.ErrDown:
		*h = house{g: h.g, d: d}
	}
	return e
}
