package dev

import (
	"bytes"
	"testing"

	"icehouse/api"
)

// TestGeometry: P1.1, each number at its bounds and outside of them.
func TestGeometry(t *testing.T) {
	fields := []struct {
		name        string
		least, most int
		set         func(g *api.Geometry, n int)
	}{
		{"Ring", api.MinRing, api.MaxRing, func(g *api.Geometry, n int) { g.Ring = n }},
		{"Area", api.MinArea, api.MaxArea, func(g *api.Geometry, n int) { g.Area = n }},
		{"Hot", api.MinHot, api.MaxHot, func(g *api.Geometry, n int) { g.Hot = n }},
		{"Volume", api.MinVolume, api.MaxVolume, func(g *api.Geometry, n int) { g.Volume = n }},
		{"Volumes", 1, api.MaxVolumes, func(g *api.Geometry, n int) { g.Volumes = n }},
	}
	for _, f := range fields {
		for _, c := range []struct {
			n    int
			want api.Errno
		}{
			{f.least, api.OK}, {f.least + 1, api.OK}, {f.most - 1, api.OK}, {f.most, api.OK},
			{f.least - 1, api.ErrRange}, {f.most + 1, api.ErrRange}, {0, api.ErrRange}, {-1, api.ErrRange},
			{least, api.ErrRange}, {huge, api.ErrRange},
		} {
			g := small()
			f.set(&g, c.n)
			if e := CheckGeometry(g); e != c.want {
				t.Errorf("%s %d: got %v, want %v", f.name, c.n, e, c.want)
			}
		}
	}
	if e := CheckGeometry(api.Geometry{}); e != api.ErrRange {
		t.Errorf("the empty geometry: %v", e)
	}
}

// TestNew: P1.2.
func TestNew(t *testing.T) {
	for _, g := range []api.Geometry{
		small(),
		{Ring: api.MaxRing, Area: api.MaxArea, Hot: api.MaxHot, Volume: api.MaxVolume, Volumes: api.MaxVolumes},
		{Ring: 5, Area: 7, Hot: 11, Volume: 300, Volumes: 3},
	} {
		d := newDevices(t, g)
		if n := 2 + g.Ring + 2*g.Area + g.Hot; len(d.Safe) != n {
			t.Errorf("%v: %d sectors, want %d", g, len(d.Safe), n)
		}
		for i, b := range d.Safe {
			if !bytes.Equal(b, make([]byte, 64)) {
				t.Errorf("%v: sector %d: %v", g, i, b)
			}
		}
		if len(d.Cache) != 0 || len(d.Volumes) != 0 || d.Fuel != -1 {
			t.Errorf("%v: %v, %v, fuel %d", g, d.Cache, d.Volumes, d.Fuel)
		}
		if e := Check(g, d); e != api.OK {
			t.Errorf("%v: they may not be: %v", g, e)
		}
	}
	g := small()
	g.Hot = api.MinHot - 1
	d, e := New(g)
	refuses(t, "New", d, e, api.ErrRange)
}

// change of devices, and what Check says behind it.
type change struct {
	name string
	do   func(d *api.Devices)
	want api.Errno
}

// changes of used devices, with each bound of P1.3.
func changes() []change {
	return []change{
		{"none", func(d *api.Devices) {}, api.OK},
		{"a sector less", func(d *api.Devices) { d.Safe = d.Safe[1:] }, api.ErrState},
		{"a sector more", func(d *api.Devices) { d.Safe = append(d.Safe, sector("")) }, api.ErrState},
		{"no sectors", func(d *api.Devices) { d.Safe = nil }, api.ErrState},
		{"a short sector", func(d *api.Devices) { d.Safe[3] = d.Safe[3][1:] }, api.ErrState},
		{"a long sector", func(d *api.Devices) { d.Safe[len(d.Safe)-1] = make([]byte, 65) }, api.ErrState},
		{"a sector that is nil", func(d *api.Devices) { d.Safe[0] = nil }, api.ErrState},
		{"nothing in the cache", func(d *api.Devices) { d.Cache = nil }, api.OK},
		{"a full cache", func(d *api.Devices) { d.Cache = writes(api.MaxWrites) }, api.OK},
		{"too many writes", func(d *api.Devices) { d.Cache = writes(api.MaxWrites + 1) }, api.ErrState},
		{"a short write", func(d *api.Devices) { d.Cache[2].Data = d.Cache[2].Data[1:] }, api.ErrState},
		{"a long write", func(d *api.Devices) { d.Cache[0].Data = make([]byte, 65) }, api.ErrState},
		{"an empty write", func(d *api.Devices) { d.Cache[0].Data = nil }, api.ErrState},
		{"a write at the last sector", func(d *api.Devices) { d.Cache[1].At = len(d.Safe) - 1 }, api.OK},
		{"a write behind all", func(d *api.Devices) { d.Cache[1].At = len(d.Safe) }, api.ErrState},
		{"a write below 0", func(d *api.Devices) { d.Cache[1].At = -1 }, api.ErrState},
		{"a write far away", func(d *api.Devices) { d.Cache[1].At = huge }, api.ErrState},
		{"no volumes", func(d *api.Devices) { d.Volumes = nil }, api.OK},
		{"all volumes", func(d *api.Devices) { d.Volumes = make([]api.Volume, 2) }, api.OK},
		{"too many volumes", func(d *api.Devices) { d.Volumes = make([]api.Volume, 3) }, api.ErrState},
		{"a full volume", func(d *api.Devices) { d.Volumes[0].Data = text(api.MinVolume) }, api.OK},
		{"too full a volume", func(d *api.Devices) { d.Volumes[0].Data = text(api.MinVolume + 1) }, api.ErrState},
		{"nothing is synced", func(d *api.Devices) { d.Volumes[0].Synced = 0 }, api.OK},
		{"all is synced", func(d *api.Devices) { d.Volumes[0].Synced = 8 }, api.OK},
		{"more than all is synced", func(d *api.Devices) { d.Volumes[0].Synced = 9 }, api.ErrState},
		{"less than nothing is synced", func(d *api.Devices) { d.Volumes[0].Synced = -1 }, api.ErrState},
		{"a volume that is gone", func(d *api.Devices) { d.Volumes[0] = api.Volume{Gone: true} }, api.OK},
		{"bytes of one that is gone", func(d *api.Devices) { d.Volumes[0] = api.Volume{Gone: true, Data: text(1)} }, api.ErrState},
		{"a full one that is gone", func(d *api.Devices) { d.Volumes[0].Gone = true }, api.ErrState},
		{"synced ones of one that is gone", func(d *api.Devices) { d.Volumes[0] = api.Volume{Gone: true, Synced: 1} }, api.ErrState},
		{"a second volume that may not be", func(d *api.Devices) { d.Volumes = append(d.Volumes, api.Volume{Synced: 1}) }, api.ErrState},
		{"dead ones", func(d *api.Devices) { d.Fuel = 0 }, api.OK},
		{"the most fuel", func(d *api.Devices) { d.Fuel = api.MaxFuel }, api.OK},
		{"too much fuel", func(d *api.Devices) { d.Fuel = api.MaxFuel + 1 }, api.ErrState},
		{"too little fuel", func(d *api.Devices) { d.Fuel = -2 }, api.ErrState},
		{"the least fuel", func(d *api.Devices) { d.Fuel = least }, api.ErrState},
	}
}

// writes in a cache, so many.
func writes(n int) []api.Write {
	out := make([]api.Write, n)
	for i := range out {
		out[i] = api.Write{At: i % 12, Data: sector("")}
	}
	return out
}

// TestCheck: P1.3; and, as P1.4 says, all calls refuse what Check refuses.
func TestCheck(t *testing.T) {
	g := small()
	for _, c := range changes() {
		d := used(t)
		c.do(&d)
		if e := Check(g, d); e != c.want {
			t.Errorf("%s: got %v, want %v", c.name, e, c.want)
		}
		if c.want == api.OK {
			continue
		}
		for _, f := range calls() {
			out, b, e := f.run(g, d)
			refuses(t, f.name+" of "+c.name, out, e, c.want)
			refusesBytes(t, f.name+" of "+c.name, b, e, c.want)
		}
	}
}

// TestCheckGeometryFirst: P1.3, P1.4: a geometry that may not be is told ahead of devices that may not be.
func TestCheckGeometryFirst(t *testing.T) {
	g := small()
	g.Volumes = api.MaxVolumes + 1
	for _, d := range []api.Devices{{}, used(t)} {
		if e := Check(g, d); e != api.ErrRange {
			t.Errorf("Check: %v", e)
		}
		for _, f := range calls() {
			out, b, e := f.run(g, d)
			refuses(t, f.name, out, e, api.ErrRange)
			refusesBytes(t, f.name, b, e, api.ErrRange)
		}
	}
}

// TestCheckAheadOfAllElse: P1.4: with other faults, too, what Check refuses is told.
func TestCheckAheadOfAllElse(t *testing.T) {
	g := small()
	bad := used(t)
	bad.Fuel = -2
	d, e := Put(g, bad, -1, text(65))
	refuses(t, "Put", d, e, api.ErrState)
	d, e = Append(g, bad, 9, text(api.MinVolume+1))
	refuses(t, "Append", d, e, api.ErrState)
	d, e = Take(g, bad, 9)
	refuses(t, "Take", d, e, api.ErrState)
	d, e = Crash(g, bad, nil, -1)
	refuses(t, "Crash", d, e, api.ErrState)
	d, e = Arm(g, bad, -1)
	refuses(t, "Arm", d, e, api.ErrState)
	b, e := Get(g, bad, -1)
	refusesBytes(t, "Get", b, e, api.ErrState)
	b, e = Fetch(g, bad, 9, -1, -1)
	refusesBytes(t, "Fetch", b, e, api.ErrState)
}

// TestFuel: P1.4: things spend fuel; all else does not, and is done by dead devices, too.
func TestFuel(t *testing.T) {
	g := small()
	for _, f := range calls() {
		for _, c := range []struct{ fuel, left int }{{-1, -1}, {1, 0}, {2, 1}, {api.MaxFuel, api.MaxFuel - 1}} {
			d := used(t)
			d.Fuel = c.fuel
			out, _, e := f.run(g, d)
			if e != api.OK {
				t.Errorf("%s with fuel %d: %v", f.name, c.fuel, e)
			}
			if f.thing && out.Fuel != c.left {
				t.Errorf("%s with fuel %d: %d is left, want %d", f.name, c.fuel, out.Fuel, c.left)
			}
		}
		dead := used(t)
		dead.Fuel = 0
		out, _, e := f.run(g, dead)
		if f.thing {
			refuses(t, f.name+" of dead ones", out, e, api.ErrDown)
		} else if e != api.OK {
			t.Errorf("%s of dead ones: %v", f.name, e)
		}
	}
}

// TestDownIsLast: P1.4: whatever else refuses a thing is told by dead devices, too.
func TestDownIsLast(t *testing.T) {
	g := small()
	dead := used(t)
	dead.Fuel = 0
	d, e := Put(g, dead, -1, nil)
	refuses(t, "Put nowhere", d, e, api.ErrRange)
	d, e = Put(g, dead, 0, text(65))
	refuses(t, "Put too much", d, e, api.ErrSize)
	d, e = Append(g, dead, 2, nil)
	refuses(t, "Append to none", d, e, api.ErrNone)
	d, e = Append(g, dead, 0, text(api.MinVolume))
	refuses(t, "Append too much", d, e, api.ErrFull)
	d, e = Take(g, dead, 1)
	refuses(t, "Take none", d, e, api.ErrNone)
	dead.Cache = writes(api.MaxWrites)
	d, e = Put(g, dead, 0, nil)
	refuses(t, "Put in a full cache", d, e, api.ErrFull)
}

// TestNothingHandedInChanges: lists that are handed in are not changed, their spare room neither.
func TestNothingHandedInChanges(t *testing.T) {
	g := small()
	for _, f := range calls() {
		d := room(used(t))
		before := wholes(d)
		f.run(g, d)
		if !same(wholes(d), before) {
			t.Errorf("%s changed what was handed in", f.name)
		}
	}
	b := append(text(3), "behind"...)[:3]
	if _, e := Put(g, used(t), 0, b); e != api.OK || string(b[:9]) != "xxxbehind" {
		t.Errorf("Put changed the bytes: %q, %v", b[:9], e)
	}
	if _, e := Append(g, used(t), 0, b); e != api.OK || string(b[:9]) != "xxxbehind" {
		t.Errorf("Append changed the bytes: %q, %v", b[:9], e)
	}
	keep := []bool{true, false, true, true}[:2]
	if _, e := Crash(g, used(t), keep, 0); e != api.OK || !keep[:4][0] || keep[:4][1] || !keep[:4][2] || !keep[:4][3] {
		t.Errorf("Crash changed what is kept: %v, %v", keep[:4], e)
	}
}

// TestAnswersAreNewMemory: what comes out shares nothing with what went in.
func TestAnswersAreNewMemory(t *testing.T) {
	g := small()
	for _, f := range calls() {
		d := room(used(t))
		out, b, _ := f.run(g, d)
		devices, read := twin(out), bytes.Clone(b)
		overwrite(d)
		if !same(out, devices) || !bytes.Equal(b, read) {
			t.Errorf("%s: the answer shares memory with what was handed in", f.name)
		}
		d = room(used(t))
		out, b, _ = f.run(g, d)
		before := wholes(d)
		overwrite(out)
		for i := range b[:cap(b)] {
			b[:cap(b)][i] = 0xee
		}
		if !same(wholes(d), before) {
			t.Errorf("%s: what was handed in shares memory with the answer", f.name)
		}
	}
}

// TestBytesAreCopied: bytes that are put or appended may change behind the call.
func TestBytesAreCopied(t *testing.T) {
	g := small()
	b := text(api.Sector)
	d, _ := Put(g, newDevices(t, g), 0, b)
	v, _ := Append(g, newDevices(t, g), 0, b)
	b[0] = 'y'
	if d.Cache[0].Data[0] != 'x' {
		t.Error("Put keeps the bytes that it was given")
	}
	if v.Volumes[0].Data[0] != 'x' {
		t.Error("Append keeps the bytes that it was given")
	}
}

// TestListsOfAnAnswer: no two lists of one answer share memory, even if all that is handed in is one.
func TestListsOfAnAnswer(t *testing.T) {
	g := small()
	one := sector("one")
	shared := used(t)
	for i := range shared.Safe {
		shared.Safe[i] = one
	}
	for i := range shared.Cache {
		shared.Cache[i].Data = one
	}
	shared.Volumes = []api.Volume{{Data: one}, {Data: one[:3]}}
	for _, f := range append(calls(), call{"New", false, func(g api.Geometry, d api.Devices) (api.Devices, []byte, api.Errno) {
		d, e := New(g)
		return d, nil, e
	}}) {
		out, _, _ := f.run(g, shared)
		l := lists(out)
		for i := range l {
			for j := range i {
				if overlap(l[i], l[j]) {
					t.Fatalf("%s: lists %d and %d share memory", f.name, j, i)
				}
			}
		}
	}
}

// TestNothingIsKept: the same call answers the same again, with others between.
func TestNothingIsKept(t *testing.T) {
	g := small()
	for _, f := range calls() {
		first, b, _ := f.run(g, used(t))
		first, b = twin(first), bytes.Clone(b)
		for _, other := range calls() {
			other.run(g, used(t))
		}
		if again, c, _ := f.run(g, used(t)); !same(first, again) || !bytes.Equal(b, c) {
			t.Errorf("%s: another answer than at first", f.name)
		}
	}
}

// TestEndsAreTaken: all calls answer, and what they answer may be, at numbers from everywhere.
func TestEndsAreTaken(t *testing.T) {
	g := small()
	numbers := []int{least, -2, -1, 0, 1, 2, 3, 4, 5, 8, 9, 11, 12, 100, 101, huge - 1, huge}
	may := func(what string, d api.Devices, e api.Errno) {
		if e == api.OK && Check(g, d) != api.OK {
			t.Errorf("%s: devices that may not be: %v", what, d)
		}
	}
	d := used(t)
	for _, n := range numbers {
		out, e := Put(g, d, n, []byte("x"))
		may("Put", out, e)
		out, e = Append(g, d, n, []byte("x"))
		may("Append", out, e)
		out, e = Take(g, d, n)
		may("Take", out, e)
		out, e = Arm(g, d, n)
		may("Arm", out, e)
		out, e = Crash(g, d, nil, n)
		may("Crash", out, e)
		Get(g, d, n)
		for _, at := range numbers {
			for _, many := range numbers {
				if b, e := Fetch(g, d, n, at, many); e == api.OK && len(b) != many {
					t.Errorf("Fetch(%d, %d, %d): %d bytes", n, at, many, len(b))
				}
			}
		}
	}
}
