package things

import (
	"reflect"
	"testing"

	"icehouse/api"
	"icehouse/dev"
)

// small: the least geometry that may be.
func small() api.Geometry {
	return api.Geometry{Ring: api.MinRing, Area: api.MinArea, Hot: api.MinHot, Volume: api.MinVolume, Volumes: 1}
}

// armed devices, which die after so many things.
func armed(t *testing.T, fuel int) api.Devices {
	t.Helper()
	d, e := dev.New(small())
	if e != api.OK {
		t.Fatal(e)
	}
	if d, e = dev.Arm(small(), d, fuel); e != api.OK {
		t.Fatal(e)
	}
	return d
}

// TestDo: things are done in their order, till the devices die; they are told as they are then.
func TestDo(t *testing.T) {
	g := small()
	l := []Thing{Put(3, []byte("a")), Put(3, []byte("b")), dev.Flush, Put(4, []byte("c")), dev.Mark}
	for fuel := range len(l) + 2 {
		want, code := armed(t, fuel), api.OK
		for i, thing := range l {
			if i == fuel {
				code = api.ErrDown
				break
			}
			want, _ = thing(g, want)
		}
		got, e := Do(g, armed(t, fuel), l...)
		if e != code || got.Fuel != want.Fuel || !reflect.DeepEqual(got.Safe, want.Safe) || len(got.Cache) != len(want.Cache) {
			t.Errorf("with the fuel %d: %v, want %v", fuel, e, code)
		}
	}
}

// TestDoRefused: what else is refused ends it, and no devices are told.
func TestDoRefused(t *testing.T) {
	g := small()
	after := 0
	count := func(g api.Geometry, d api.Devices) (api.Devices, api.Errno) {
		after++
		return dev.Flush(g, d)
	}
	got, e := Do(g, armed(t, 5), dev.Flush, Put(-1, nil), count)
	if e != api.ErrRange || got.Safe != nil || got.Fuel != 0 || after != 0 {
		t.Errorf("%v, %d sectors, %d things behind it", e, len(got.Safe), after)
	}
}

// TestDeadAreNew: devices that are dead from the beginning on are told in new memory.
func TestDeadAreNew(t *testing.T) {
	d := armed(t, 0)
	got, e := Do(small(), d, dev.Flush)
	if e != api.ErrDown || len(got.Safe) != len(d.Safe) {
		t.Fatalf("%v, %d sectors", e, len(got.Safe))
	}
	got.Safe[0][0] = 1
	if d.Safe[0][0] != 0 {
		t.Error("they share memory with those that were given")
	}
}

// TestTape: bytes at the end of a volume, and a volume that is taken away; each is one thing.
func TestTape(t *testing.T) {
	g := small()
	got, e := Do(g, armed(t, 9), Append(0, []byte("ab")), Append(0, []byte("c")), dev.Mark)
	if e != api.OK || got.Fuel != 6 || len(got.Volumes) != 1 || string(got.Volumes[0].Data) != "abc" || got.Volumes[0].Synced != 3 {
		t.Errorf("%v, %+v", e, got.Volumes)
	}
	got, e = Do(g, got, Take(0))
	if e != api.OK || got.Fuel != 5 || !got.Volumes[0].Gone {
		t.Errorf("%v, %+v", e, got.Volumes)
	}
	if _, e = Do(g, got, Take(0)); e != api.ErrNone {
		t.Errorf("taken twice: %v", e)
	}
	if got, e = Do(g, armed(t, 1), Append(0, []byte("ab")), dev.Mark); e != api.ErrDown || string(got.Volumes[0].Data) != "ab" || got.Volumes[0].Synced != 0 {
		t.Errorf("%v, %+v", e, got.Volumes)
	}
}
