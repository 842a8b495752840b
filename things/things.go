// Package things: what is done to devices, one thing behind the other, till they die.
package things

import (
	"icehouse/api"
	"icehouse/dev"
)

// Thing that is done to devices: dev's Flush and Mark are such as they stand.
type Thing func(g api.Geometry, d api.Devices) (api.Devices, api.Errno)

// Put bytes in a sector.
func Put(at int, b []byte) Thing {
	return func(g api.Geometry, d api.Devices) (api.Devices, api.Errno) { return dev.Put(g, d, at, b) }
}

// Append bytes to a volume.
func Append(v int, b []byte) Thing {
	return func(g api.Geometry, d api.Devices) (api.Devices, api.Errno) { return dev.Append(g, d, v, b) }
}

// Take a volume away.
func Take(v int) Thing {
	return func(g api.Geometry, d api.Devices) (api.Devices, api.Errno) { return dev.Take(g, d, v) }
}

// Do things in their order; what is refused ends it. Devices that died are told as they are then; with any other error they are empty. (Without a thing they are told as they came: give one at least, then it is new memory.)
func Do(g api.Geometry, d api.Devices, l ...Thing) (api.Devices, api.Errno) {
	for _, thing := range l {
		out, e := thing(g, d)
		if e == api.ErrDown {
			// The dead have the Fuel 0: to arm them with it changes nothing, and tells them in new memory.
			out, _ = dev.Arm(g, d, 0)
		}
		if e != api.OK {
			return out, e
		}
		d = out
	}
	return d, api.OK
}
