package store

import (
	"icehouse/api"
	"icehouse/code"
	"icehouse/dev"
	"icehouse/ring"
	"icehouse/things"
)

// reopen the house behind a crash: from the snapshot and the transactions, how many of which there were is told.
func (h *house) reopen(a api.Act) (int, api.Errno) {
	d, e := dev.Crash(h.g, h.d, a.Keep, a.M)
	if e != api.OK {
		return 0, e
	}
	d, j, snapshot, l, e := ring.Open(h.g, d)
	if e != api.OK {
		return 0, e
	}
	s, e := stateOf(snapshot)
	if e != api.OK {
		return 0, e
	}
	for _, b := range l {
		if s, e = replay(s, b); e != api.OK {
			// What is in the journal is not to be had: there is no state to stand on.
			*h = house{g: h.g, d: h.d}
			return 0, e
		}
	}
	if d, e = takeGone(h.g, d, s.Gone); e != api.OK {
		return 0, e
	}
	*h = house{g: h.g, up: true, s: s, d: d, j: j}
	return len(l), api.OK
}

// stateOf a snapshot: one without bytes is from before there was anything.
func stateOf(snapshot []byte) (api.State, api.Errno) {
	if len(snapshot) == 0 {
		return empty(), api.OK
	}
	return code.DecodeState(snapshot)
}

// replay a transaction on a state.
func replay(s api.State, b []byte) (api.State, api.Errno) {
	l, e := code.Decode(b)
	if e != api.OK {
		return api.State{}, e
	}
	return behind(s, l...)
}

// takeGone: volumes that were given up are taken away, if that did not come to it ahead of the crash.
func takeGone(g api.Geometry, d api.Devices, gone []int) (api.Devices, api.Errno) {
	var todo []things.Thing
	for _, n := range gone {
		if n >= len(d.Volumes) || !d.Volumes[n].Gone {
			todo = append(todo, things.Take(n))
		}
	}
	return things.Do(g, d, todo...)
}
