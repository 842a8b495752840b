package dev

import "icehouse/api"

// Crash: of what was put those that are named stay; of each tape's end so many bytes. Then the devices live again, for ever.
func Crash(g api.Geometry, d api.Devices, keep []bool, tail int) (api.Devices, api.Errno) {
	if e := Check(g, d); e != api.OK {
		return api.Devices{}, e
	}
	if tail < 0 {
		return api.Devices{}, api.ErrRange
	}
	out := settle(copyDevices(d), func(i int) bool { return i < len(keep) && keep[i] })
	// The lesser one is taken ahead of the sum: a great tail would leave the numbers.
	out = cut(out, func(v api.Volume) int { return v.Synced + min(tail, len(v.Data)-v.Synced) })
	out.Fuel = forever
	return out, api.OK
}

// Arm: the devices die after so many things.
func Arm(g api.Geometry, d api.Devices, fuel int) (api.Devices, api.Errno) {
	if e := Check(g, d); e != api.OK {
		return api.Devices{}, e
	}
	if fuel < 0 || fuel > api.MaxFuel {
		return api.Devices{}, api.ErrRange
	}
	out := copyDevices(d)
	out.Fuel = fuel
	return out, api.OK
}
