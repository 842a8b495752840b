package dev

import (
	"bytes"
	"reflect"
	"strings"
	"testing"

	"icehouse/api"
)

// Numbers that are far outside all bounds.
const (
	huge  = int(^uint(0) >> 1)
	least = -huge - 1
)

// small: the least geometry that may be, but for two volumes.
func small() api.Geometry {
	return api.Geometry{Ring: api.MinRing, Area: api.MinArea, Hot: api.MinHot, Volume: api.MinVolume, Volumes: 2}
}

// newDevices of a geometry that may be.
func newDevices(t *testing.T, g api.Geometry) api.Devices {
	t.Helper()
	d, e := New(g)
	if e != api.OK {
		t.Fatalf("New(%v): %v", g, e)
	}
	return d
}

// must: the devices that a call answered, which may not have refused.
func must(t *testing.T) func(d api.Devices, e api.Errno) api.Devices {
	t.Helper()
	return func(d api.Devices, e api.Errno) api.Devices {
		t.Helper()
		if e != api.OK {
			t.Fatalf("refused: %v", e)
		}
		return d
	}
}

// sector: a text, filled up with zeros.
func sector(s string) []byte { return append([]byte(s), make([]byte, api.Sector-len(s))...) }

// text of so many bytes.
func text(n int) []byte { return []byte(strings.Repeat("x", n)) }

// used devices of small(): writes in the cache, two of them at one sector, and a volume with an end that is not synced.
func used(t *testing.T) api.Devices {
	t.Helper()
	ok, g := must(t), small()
	d := newDevices(t, g)
	d = ok(Put(g, d, 0, []byte("old")))
	d = ok(Flush(g, d))
	d = ok(Put(g, d, 1, []byte("one")))
	d = ok(Put(g, d, 0, []byte("two")))
	d = ok(Put(g, d, 0, []byte("three")))
	d = ok(Append(g, d, 0, []byte("safe")))
	d = ok(Mark(g, d))
	return ok(Append(g, d, 0, []byte("-end")))
}

// same: do these devices have the same in them?
func same(a, b api.Devices) bool {
	if len(a.Safe) != len(b.Safe) || len(a.Cache) != len(b.Cache) || len(a.Volumes) != len(b.Volumes) || a.Fuel != b.Fuel {
		return false
	}
	for i := range a.Safe {
		if !bytes.Equal(a.Safe[i], b.Safe[i]) {
			return false
		}
	}
	for i, w := range a.Cache {
		if w.At != b.Cache[i].At || !bytes.Equal(w.Data, b.Cache[i].Data) {
			return false
		}
	}
	for i, v := range a.Volumes {
		u := b.Volumes[i]
		if !bytes.Equal(v.Data, u.Data) || v.Synced != u.Synced || v.Gone != u.Gone {
			return false
		}
	}
	return true
}

// twin: the same devices in other memory.
func twin(d api.Devices) api.Devices {
	out := api.Devices{Fuel: d.Fuel}
	for _, b := range d.Safe {
		out.Safe = append(out.Safe, bytes.Clone(b))
	}
	for _, w := range d.Cache {
		out.Cache = append(out.Cache, api.Write{At: w.At, Data: bytes.Clone(w.Data)})
	}
	for _, v := range d.Volumes {
		out.Volumes = append(out.Volumes, api.Volume{Data: bytes.Clone(v.Data), Synced: v.Synced, Gone: v.Gone})
	}
	return out
}

// want the devices that a call answered to be these.
func want(t *testing.T, what string, got api.Devices, e api.Errno, d api.Devices) {
	t.Helper()
	if e != api.OK {
		t.Errorf("%s: refused: %v", what, e)
	} else if !same(got, d) {
		t.Errorf("%s:\ngot  %v\nwant %v", what, got, d)
	}
}

// refuses: the call must answer this error, and nothing beside it.
func refuses(t *testing.T, what string, d api.Devices, got, want api.Errno) {
	t.Helper()
	if got != want {
		t.Errorf("%s: got %v, want %v", what, got, want)
	}
	if !same(d, api.Devices{}) {
		t.Errorf("%s: devices beside an error: %v", what, d)
	}
}

// refusesBytes: as refuses, of a call that answers bytes.
func refusesBytes(t *testing.T, what string, b []byte, got, want api.Errno) {
	t.Helper()
	if got != want {
		t.Errorf("%s: got %v, want %v", what, got, want)
	}
	if len(b) != 0 {
		t.Errorf("%s: bytes beside an error: %v", what, b)
	}
}

// call of a function, of its own name, on devices; others of its arguments are chosen so that it does not refuse them on used devices.
type call struct {
	name  string
	thing bool // it spends fuel
	run   func(g api.Geometry, d api.Devices) (api.Devices, []byte, api.Errno)
}

// calls: all that work on devices, but Check.
func calls() []call {
	of := func(name string, thing bool, f func(g api.Geometry, d api.Devices) (api.Devices, api.Errno)) call {
		return call{name, thing, func(g api.Geometry, d api.Devices) (api.Devices, []byte, api.Errno) {
			out, e := f(g, d)
			return out, nil, e
		}}
	}
	reads := func(name string, f func(g api.Geometry, d api.Devices) ([]byte, api.Errno)) call {
		return call{name, false, func(g api.Geometry, d api.Devices) (api.Devices, []byte, api.Errno) {
			b, e := f(g, d)
			return api.Devices{}, b, e
		}}
	}
	return []call{
		of("Put", true, func(g api.Geometry, d api.Devices) (api.Devices, api.Errno) { return Put(g, d, 2, []byte("four")) }),
		of("Flush", true, Flush),
		of("Append", true, func(g api.Geometry, d api.Devices) (api.Devices, api.Errno) { return Append(g, d, 0, []byte("more")) }),
		of("Append to a new one", true, func(g api.Geometry, d api.Devices) (api.Devices, api.Errno) {
			return Append(g, d, len(d.Volumes), []byte("new"))
		}),
		of("Mark", true, Mark),
		of("Take", true, func(g api.Geometry, d api.Devices) (api.Devices, api.Errno) { return Take(g, d, 0) }),
		of("Crash", false, func(g api.Geometry, d api.Devices) (api.Devices, api.Errno) {
			return Crash(g, d, []bool{true, false, true}, 2)
		}),
		of("Arm", false, func(g api.Geometry, d api.Devices) (api.Devices, api.Errno) { return Arm(g, d, 5) }),
		reads("Get", func(g api.Geometry, d api.Devices) ([]byte, api.Errno) { return Get(g, d, 0) }),
		reads("Get what is safe", func(g api.Geometry, d api.Devices) ([]byte, api.Errno) { return Get(g, d, 3) }),
		reads("Fetch", func(g api.Geometry, d api.Devices) ([]byte, api.Errno) { return Fetch(g, d, 0, 1, 4) }),
	}
}

// lists of bytes in devices, with their spare room.
func lists(d api.Devices) [][]byte {
	var out [][]byte
	for _, b := range d.Safe {
		out = append(out, b[:cap(b)])
	}
	for _, w := range d.Cache {
		out = append(out, w.Data[:cap(w.Data)])
	}
	for _, v := range d.Volumes {
		out = append(out, v.Data[:cap(v.Data)])
	}
	return out
}

// overwrite all that devices have, spare room, too.
func overwrite(d api.Devices) {
	for _, b := range lists(d) {
		for i := range b {
			b[i] = 0xee
		}
	}
	for i := range d.Safe[:cap(d.Safe)] {
		d.Safe[:cap(d.Safe)][i] = nil
	}
	for i := range d.Cache[:cap(d.Cache)] {
		d.Cache[:cap(d.Cache)][i] = api.Write{At: -7}
	}
	for i := range d.Volumes[:cap(d.Volumes)] {
		d.Volumes[:cap(d.Volumes)][i] = api.Volume{Synced: -7}
	}
}

// room: the same devices, with spare room, full of marks, behind each list.
func room(d api.Devices) api.Devices {
	bytesWith := func(b []byte) []byte {
		return append(append(make([]byte, 0, len(b)+200), b...), bytes.Repeat([]byte{0xaa}, 200)...)[:len(b)]
	}
	d = twin(d)
	for i, b := range d.Safe {
		d.Safe[i] = bytesWith(b)
	}
	for i, w := range d.Cache {
		d.Cache[i].Data = bytesWith(w.Data)
	}
	for i, v := range d.Volumes {
		d.Volumes[i].Data = bytesWith(v.Data)
	}
	d.Safe = append(d.Safe, []byte("mark"))[:len(d.Safe)]
	d.Cache = append(d.Cache, api.Write{At: 99})[:len(d.Cache)]
	d.Volumes = append(d.Volumes, api.Volume{Synced: 99})[:len(d.Volumes)]
	return d
}

// wholes: what stands in devices and in the spare room of their lists.
func wholes(d api.Devices) api.Devices {
	out := api.Devices{Fuel: d.Fuel}
	for _, b := range d.Safe[:cap(d.Safe)] {
		out.Safe = append(out.Safe, bytes.Clone(b[:cap(b)]))
	}
	for _, w := range d.Cache[:cap(d.Cache)] {
		out.Cache = append(out.Cache, api.Write{At: w.At, Data: bytes.Clone(w.Data[:cap(w.Data)])})
	}
	for _, v := range d.Volumes[:cap(d.Volumes)] {
		out.Volumes = append(out.Volumes, api.Volume{Data: bytes.Clone(v.Data[:cap(v.Data)]), Synced: v.Synced, Gone: v.Gone})
	}
	return out
}

// overlap: do two lists, spare room and all, have memory in common?
func overlap(a, b []byte) bool {
	if cap(a) == 0 || cap(b) == 0 {
		return false
	}
	p, q := reflect.ValueOf(a).Pointer(), reflect.ValueOf(b).Pointer()
	return p < q+uintptr(cap(b)) && q < p+uintptr(cap(a))
}
