package dev

import "icehouse/api"

// Put bytes in a sector: they are not safe yet.
func Put(g api.Geometry, d api.Devices, at int, b []byte) (api.Devices, api.Errno) {
	if e := Check(g, d); e != api.OK {
		return api.Devices{}, e
	}
	switch {
	case !isSector(d, at):
		return api.Devices{}, api.ErrRange
	case len(b) > api.Sector:
		return api.Devices{}, api.ErrSize
	case len(d.Cache) == api.MaxWrites:
		return api.Devices{}, api.ErrFull
	}
	out, e := oneThing(d)
	if e != api.OK {
		return api.Devices{}, e
	}
	out.Cache = append(out.Cache, api.Write{At: at, Data: copyBytes(b, api.Sector)})
	return out, api.OK
}

// Get a sector: what was put there last.
func Get(g api.Geometry, d api.Devices, at int) ([]byte, api.Errno) {
	if e := Check(g, d); e != api.OK {
		return nil, e
	}
	if !isSector(d, at) {
		return nil, api.ErrRange
	}
	b := d.Safe[at]
	if i := last(len(d.Cache), func(i int) bool { return d.Cache[i].At == at }); i >= 0 {
		b = d.Cache[i].Data
	}
	return copyBytes(b, api.Sector), api.OK
}

// Flush all that was put: it is safe.
func Flush(g api.Geometry, d api.Devices) (api.Devices, api.Errno) {
	if e := Check(g, d); e != api.OK {
		return api.Devices{}, e
	}
	out, e := oneThing(d)
	if e != api.OK {
		return api.Devices{}, e
	}
	return settle(out, func(int) bool { return true }), api.OK
}

// settle the cache of devices that nobody else has: the writes that stay are safe, and it is empty.
func settle(d api.Devices, stays func(place int) bool) api.Devices {
	// In their order: of two at one sector the later one counts.
	for i, w := range d.Cache {
		if stays(i) {
			copy(d.Safe[w.At], w.Data)
		}
	}
	d.Cache = nil
	return d
}
