package dev

import (
	"testing"

	"icehouse/api"
)

// TestCrashCache: P1.12: those of the writes stay that are named, in their order.
func TestCrashCache(t *testing.T) {
	g := small()
	for _, c := range []struct {
		keep     []bool
		at0, at1 string
	}{
		{nil, "old", ""},
		{[]bool{true}, "old", "one"},
		{[]bool{false, true}, "two", ""},
		{[]bool{false, false, true}, "three", ""},
		{[]bool{true, true, true}, "three", "one"},
		{[]bool{true, true, false}, "two", "one"},
		{[]bool{false, false, false, true, true}, "old", ""},
		{[]bool{true, true, true, true, true}, "three", "one"},
	} {
		d := used(t)
		w := twin(d)
		w.Safe[0], w.Safe[1], w.Cache = sector(c.at0), sector(c.at1), nil
		w.Volumes[0] = api.Volume{Data: []byte("safe"), Synced: 4}
		got, e := Crash(g, d, c.keep, 0)
		want(t, "Crash", got, e, w)
	}
}

// TestCrashTapes: P1.12: of each end the first bytes stay, and are synced then.
func TestCrashTapes(t *testing.T) {
	g := small()
	for _, c := range []struct {
		tail int
		a, b string
	}{
		{0, "safe", ""}, {1, "safe-", "x"}, {3, "safe-en", "xx"}, {4, "safe-end", "xx"}, {5, "safe-end", "xx"}, {huge, "safe-end", "xx"},
	} {
		d := used(t)
		d.Volumes = append(d.Volumes, api.Volume{Data: text(2)})
		w := twin(d)
		w.Cache = nil
		w.Volumes = []api.Volume{{Data: []byte(c.a), Synced: len(c.a)}, {Data: []byte(c.b), Synced: len(c.b)}}
		got, e := Crash(g, d, nil, c.tail)
		want(t, "Crash", got, e, w)
	}
	d := used(t)
	d.Volumes[0] = api.Volume{Gone: true}
	w := twin(d)
	w.Cache = nil
	got, e := Crash(g, d, nil, 7)
	want(t, "Crash, with one that is gone", got, e, w)
}

// TestCrashFuel: P1.12: whatever the fuel was, the devices live for ever.
func TestCrashFuel(t *testing.T) {
	g := small()
	for _, fuel := range []int{-1, 0, 1, api.MaxFuel} {
		d := used(t)
		d.Fuel = fuel
		if got, e := Crash(g, d, nil, 0); e != api.OK || got.Fuel != -1 {
			t.Errorf("Crash with fuel %d: %d, %v", fuel, got.Fuel, e)
		}
	}
}

// TestCrashRefuses: P1.12.
func TestCrashRefuses(t *testing.T) {
	for _, tail := range []int{-1, least} {
		got, e := Crash(small(), used(t), []bool{true}, tail)
		refuses(t, "Crash", got, e, api.ErrRange)
	}
}

// TestArm: P1.13: the fuel is set, dead devices live again, and nothing else changes.
func TestArm(t *testing.T) {
	g := small()
	for _, fuel := range []int{0, 1, api.MaxFuel - 1, api.MaxFuel} {
		for _, was := range []int{-1, 0, 3} {
			d := used(t)
			d.Fuel = was
			w := twin(d)
			w.Fuel = fuel
			got, e := Arm(g, d, fuel)
			want(t, "Arm", got, e, w)
		}
	}
	for _, fuel := range []int{-1, api.MaxFuel + 1, least, huge} {
		got, e := Arm(g, used(t), fuel)
		refuses(t, "Arm", got, e, api.ErrRange)
	}
}

// TestArmedDevicesDie: P1.4, P1.13: after so many things, not sooner.
func TestArmedDevicesDie(t *testing.T) {
	g := small()
	d, _ := Arm(g, newDevices(t, g), 3)
	for i := range 3 {
		var e api.Errno
		if d, e = Put(g, d, i, nil); e != api.OK {
			t.Fatalf("thing %d: %v", i, e)
		}
	}
	got, e := Flush(g, d)
	refuses(t, "Flush", got, e, api.ErrDown)
}
