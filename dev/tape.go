package dev

import "icehouse/api"

// Append bytes to a volume: the last one may be the next one that is begun.
func Append(g api.Geometry, d api.Devices, v int, b []byte) (api.Devices, api.Errno) {
	if e := Check(g, d); e != api.OK {
		return api.Devices{}, e
	}
	begins := v == len(d.Volumes) && v < g.Volumes
	if !begins && !isVolume(d, v) {
		return api.Devices{}, api.ErrNone
	}
	room := g.Volume
	if !begins {
		room -= len(d.Volumes[v].Data)
	}
	if len(b) > room {
		return api.Devices{}, api.ErrFull
	}
	out, e := oneThing(d)
	if e != api.OK {
		return api.Devices{}, e
	}
	if begins {
		out.Volumes = append(out.Volumes, api.Volume{})
	}
	out.Volumes[v].Data = append(out.Volumes[v].Data, b...)
	return out, api.OK
}

// Mark all volumes: their bytes are safe.
func Mark(g api.Geometry, d api.Devices) (api.Devices, api.Errno) {
	if e := Check(g, d); e != api.OK {
		return api.Devices{}, e
	}
	out, e := oneThing(d)
	if e != api.OK {
		return api.Devices{}, e
	}
	return cut(out, func(v api.Volume) int { return len(v.Data) }), api.OK
}

// Fetch bytes of a volume.
func Fetch(g api.Geometry, d api.Devices, v, at, n int) ([]byte, api.Errno) {
	if e := Check(g, d); e != api.OK {
		return nil, e
	}
	if !isVolume(d, v) {
		return nil, api.ErrNone
	}
	b := d.Volumes[v].Data
	// The rest is held against n, not the end against the length: at + n may leave the numbers.
	if at < 0 || n < 0 || at > len(b) || n > len(b)-at {
		return nil, api.ErrRange
	}
	return copyBytes(b[at:], n), api.OK
}

// Take a volume away.
func Take(g api.Geometry, d api.Devices, v int) (api.Devices, api.Errno) {
	if e := Check(g, d); e != api.OK {
		return api.Devices{}, e
	}
	if !isVolume(d, v) {
		return api.Devices{}, api.ErrNone
	}
	out, e := oneThing(d)
	if e != api.OK {
		return api.Devices{}, e
	}
	out.Volumes[v] = api.Volume{Gone: true}
	return out, api.OK
}

// isVolume: was it begun, and not taken away?
func isVolume(d api.Devices, v int) bool {
	return v >= 0 && v < len(d.Volumes) && !d.Volumes[v].Gone
}

// cut the volumes of devices that nobody else has, each to as many bytes as stay: these are safe.
func cut(d api.Devices, stays func(v api.Volume) int) api.Devices {
	for i, v := range d.Volumes {
		n := stays(v)
		d.Volumes[i].Data = copyBytes(v.Data, n)
		d.Volumes[i].Synced = n
	}
	return d
}
