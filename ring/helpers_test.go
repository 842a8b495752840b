package ring

import (
	"bytes"
	"reflect"
	"strings"
	"testing"

	"icehouse/api"
	"icehouse/dev"
)

// Numbers that are far outside all bounds.
const (
	huge  = int(^uint(0) >> 1)
	least = -huge - 1
)

// small: the least geometry that may be, but for three sectors of an area.
func small() api.Geometry {
	return api.Geometry{Ring: api.MinRing, Area: 3, Hot: api.MinHot, Volume: api.MinVolume, Volumes: 2}
}

// Where things stand on the disk of small().
const (
	ringAt   = 2
	area0At  = 6
	area1At  = 9
	hotAt    = 12
	allSmall = 14
)

// text of so many bytes, no two neighbours the same.
func text(n int) []byte {
	return []byte(strings.Repeat("abcdefg", n/7+1)[:n])
}

// sector: bytes, filled up with zeros.
func sector(b ...byte) []byte { return append(b, make([]byte, api.Sector-len(b))...) }

// blank devices of small(), with a mark in each sector, and bytes on tape.
func blank(t *testing.T) api.Devices {
	t.Helper()
	d, e := dev.New(small())
	if e != api.OK {
		t.Fatal(e)
	}
	for i := range d.Safe {
		d.Safe[i][api.Sector-1] = byte(200 + i)
		d.Safe[i][20] = 77
	}
	d.Volumes = []api.Volume{{Data: []byte("tape"), Synced: 2}}
	return d
}

// formatted devices, and their journal.
func formatted(t *testing.T) (api.Devices, api.Journal) {
	t.Helper()
	d, j, e := Format(small(), blank(t))
	if e != api.OK {
		t.Fatal(e)
	}
	return d, j
}

// twin: the same devices in other memory.
func twin(d api.Devices) api.Devices {
	out := api.Devices{Fuel: d.Fuel}
	for _, b := range d.Safe {
		out.Safe = append(out.Safe, bytes.Clone(b))
	}
	for _, w := range d.Cache {
		out.Cache = append(out.Cache, api.Write{At: w.At, Data: bytes.Clone(w.Data)})
	}
	for _, v := range d.Volumes {
		out.Volumes = append(out.Volumes, api.Volume{Data: bytes.Clone(v.Data), Synced: v.Synced, Gone: v.Gone})
	}
	return out
}

// same: do these devices have the same in them?
func same(a, b api.Devices) bool {
	if len(a.Safe) != len(b.Safe) || len(a.Cache) != len(b.Cache) || len(a.Volumes) != len(b.Volumes) || a.Fuel != b.Fuel {
		return false
	}
	for i := range a.Safe {
		if !bytes.Equal(a.Safe[i], b.Safe[i]) {
			return false
		}
	}
	for i, w := range a.Cache {
		if w.At != b.Cache[i].At || !bytes.Equal(w.Data, b.Cache[i].Data) {
			return false
		}
	}
	for i, v := range a.Volumes {
		u := b.Volumes[i]
		if !bytes.Equal(v.Data, u.Data) || v.Synced != u.Synced || v.Gone != u.Gone {
			return false
		}
	}
	return true
}

// step: a write of bytes at a sector, or (at is -1) a flush.
type step struct {
	at int
	b  []byte
}

// flush is the step that makes all safe.
func flush() step { return step{-1, nil} }

// after steps on devices: as dev does them, till they die.
func after(t *testing.T, d api.Devices, l ...step) (api.Devices, api.Errno) {
	t.Helper()
	g := small()
	for _, s := range l {
		var out api.Devices
		var e api.Errno
		if s.at < 0 {
			out, e = dev.Flush(g, d)
		} else {
			out, e = dev.Put(g, d, s.at, s.b)
		}
		if e != api.OK {
			return d, e
		}
		d = out
	}
	return d, api.OK
}

// answer of one of the calls.
type answer struct {
	d        api.Devices
	j        api.Journal
	snapshot []byte
	l        [][]byte
	e        api.Errno
}

// call of a function on devices; all else is chosen so that it is not refused.
type call func(g api.Geometry, d api.Devices) answer

func format(g api.Geometry, d api.Devices) answer {
	var a answer
	a.d, a.j, a.e = Format(g, d)
	return a
}

func open(g api.Geometry, d api.Devices) answer {
	var a answer
	a.d, a.j, a.snapshot, a.l, a.e = Open(g, d)
	return a
}

func commit(j api.Journal, b []byte) call {
	return func(g api.Geometry, d api.Devices) answer {
		var a answer
		a.d, a.j, a.e = Commit(g, d, j, b)
		return a
	}
}

func save(j api.Journal, b []byte) call {
	return func(g api.Geometry, d api.Devices) answer {
		var a answer
		a.d, a.j, a.e = Save(g, d, j, b)
		return a
	}
}

// calls: all that work on devices, with a journal that stands on them.
func calls(j api.Journal) map[string]call {
	return map[string]call{
		"Format": format,
		"Commit": commit(j, text(60)),
		"Save":   save(j, text(100)),
		"Open":   open,
	}
}

// refuses: the call must answer this error, and nothing beside it.
func refuses(t *testing.T, what string, a answer, want api.Errno) {
	t.Helper()
	if a.e != want {
		t.Errorf("%s: got %v, want %v", what, a.e, want)
	}
	if !same(a.d, api.Devices{}) || a.j != (api.Journal{}) || len(a.snapshot) != 0 || len(a.l) != 0 {
		t.Errorf("%s: something beside an error: %v", what, a)
	}
}

// does: the call must do these steps, whenever the devices die, and tell this journal.
func does(t *testing.T, what string, f call, d api.Devices, j api.Journal, l ...step) {
	t.Helper()
	for fuel := -1; fuel <= len(l)+1; fuel++ {
		d := twin(d)
		d.Fuel = fuel
		want, e := after(t, d, l...)
		a := f(small(), d)
		if a.e != e || !same(a.d, want) {
			t.Errorf("%s with the fuel %d: %v\ngot  %v\nwant %v, %v", what, fuel, a.e, a.d, want, e)
		}
		told := j
		if e != api.OK {
			told = api.Journal{}
		}
		if a.j != told {
			t.Errorf("%s with the fuel %d: journal %+v, want %+v", what, fuel, a.j, told)
		}
		if e != api.OK && (len(a.snapshot) != 0 || len(a.l) != 0) {
			t.Errorf("%s with the fuel %d: something beside dead devices", what, fuel)
		}
	}
}

// overlap: do two lists, spare room and all, have memory in common?
func overlap(a, b []byte) bool {
	if cap(a) == 0 || cap(b) == 0 {
		return false
	}
	p, q := reflect.ValueOf(a).Pointer(), reflect.ValueOf(b).Pointer()
	return p < q+uintptr(cap(b)) && q < p+uintptr(cap(a))
}

// lists of bytes in devices.
func lists(d api.Devices) [][]byte {
	out := append([][]byte{}, d.Safe...)
	for _, w := range d.Cache {
		out = append(out, w.Data)
	}
	for _, v := range d.Volumes {
		out = append(out, v.Data)
	}
	return out
}
