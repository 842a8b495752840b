// Package dev: a disk whose writes are not safe till it is flushed, and tapes whose ends are not safe till they are marked.
package dev

import "icehouse/api"

// forever is the Fuel of devices that do not die.
const forever = -1

// CheckGeometry: may it be?
func CheckGeometry(g api.Geometry) api.Errno {
	numbers := [5]int{g.Ring, g.Area, g.Hot, g.Volume, g.Volumes}
	least := [5]int{api.MinRing, api.MinArea, api.MinHot, api.MinVolume, 1}
	most := [5]int{api.MaxRing, api.MaxArea, api.MaxHot, api.MaxVolume, api.MaxVolumes}
	for i, n := range numbers {
		if n < least[i] || n > most[i] {
			return api.ErrRange
		}
	}
	return api.OK
}

// New devices: all is zero, no volume was begun.
func New(g api.Geometry) (api.Devices, api.Errno) {
	if e := CheckGeometry(g); e != api.OK {
		return api.Devices{}, e
	}
	safe := make([][]byte, sectors(g))
	for i := range safe {
		safe[i] = make([]byte, api.Sector)
	}
	return api.Devices{Safe: safe, Fuel: forever}, api.OK
}

// Check devices of a geometry.
func Check(g api.Geometry, d api.Devices) api.Errno {
	if e := CheckGeometry(g); e != api.OK {
		return e
	}
	// How many there are is asked first: lists that are too long are not walked.
	if len(d.Safe) != sectors(g) || len(d.Cache) > api.MaxWrites || len(d.Volumes) > g.Volumes {
		return api.ErrState
	}
	if d.Fuel < forever || d.Fuel > api.MaxFuel {
		return api.ErrState
	}
	if !every(len(d.Safe), func(i int) bool { return len(d.Safe[i]) == api.Sector }) {
		return api.ErrState
	}
	if !every(len(d.Cache), func(i int) bool {
		w := d.Cache[i]
		return isSector(d, w.At) && len(w.Data) == api.Sector
	}) {
		return api.ErrState
	}
	if !every(len(d.Volumes), func(i int) bool { return volumeMayBe(g, d.Volumes[i]) }) {
		return api.ErrState
	}
	return api.OK
}

// volumeMayBe: does it keep to the geometry? One that is gone has no bytes.
func volumeMayBe(g api.Geometry, v api.Volume) bool {
	most := g.Volume
	if v.Gone {
		most = 0
	}
	return len(v.Data) <= most && v.Synced >= 0 && v.Synced <= len(v.Data)
}

// sectors that a disk of a geometry has: superblocks, ring, areas, and those for payloads.
func sectors(g api.Geometry) int { return 2 + g.Ring + 2*g.Area + g.Hot }

// isSector: is there a sector at this place?
func isSector(d api.Devices, at int) bool { return at >= 0 && at < len(d.Safe) }

// every: does it hold for all places of so many?
func every(many int, holds func(place int) bool) bool {
	for i := range many {
		if !holds(i) {
			return false
		}
	}
	return true
}

// last place of so many for which it holds; -1: there is none.
func last(many int, holds func(place int) bool) int {
	for i := many - 1; i >= 0; i-- {
		if holds(i) {
			return i
		}
	}
	return -1
}

// oneThing: the devices, in memory of their own, with the fuel for one thing spent. Callers refuse all else ahead of it.
func oneThing(d api.Devices) (api.Devices, api.Errno) {
	if d.Fuel == 0 {
		return api.Devices{}, api.ErrDown
	}
	out := copyDevices(d)
	if out.Fuel > 0 {
		out.Fuel--
	}
	return out, api.OK
}

// copyDevices: the same devices in memory of their own, sector by sector, so that no two answers share any.
func copyDevices(d api.Devices) api.Devices {
	out := api.Devices{
		Safe:    make([][]byte, len(d.Safe)),
		Cache:   make([]api.Write, len(d.Cache)),
		Volumes: make([]api.Volume, len(d.Volumes)),
		Fuel:    d.Fuel,
	}
	for i, b := range d.Safe {
		out.Safe[i] = copyBytes(b, len(b))
	}
	for i, w := range d.Cache {
		out.Cache[i] = api.Write{At: w.At, Data: copyBytes(w.Data, len(w.Data))}
	}
	for i, v := range d.Volumes {
		out.Volumes[i] = api.Volume{Data: copyBytes(v.Data, len(v.Data)), Synced: v.Synced, Gone: v.Gone}
	}
	return out
}

// copyBytes: so many bytes, new ones: the first of those that are given, then zeros.
func copyBytes(b []byte, many int) []byte {
	out := make([]byte, many)
	copy(out, b)
	return out
}
