package ring

import (
	"bytes"
	"reflect"
	"testing"

	"icehouse/api"
	"icehouse/dev"
)

// TestCheck: P2.2, the bounds of each number, from both sides.
func TestCheck(t *testing.T) {
	const most = api.MaxNumber
	base := api.Journal{Gen: 5, Epoch: 4, Area: 1, Length: 3, Start: 2, First: 7, Place: 1, Next: 9, Used: 3}
	for _, c := range []struct {
		name string
		set  func(j *api.Journal, n int)
		good []int
		bad  []int
	}{
		{"Gen", func(j *api.Journal, n int) { j.Gen = n }, []int{1, 2, most}, []int{0, -1, most + 1, least, huge}},
		{"Epoch", func(j *api.Journal, n int) { j.Epoch = n }, []int{1, 2, most}, []int{0, -1, most + 1, least, huge}},
		{"First", func(j *api.Journal, n int) { j.First = n }, []int{1, 9}, []int{0, -1, 10, most, least, huge}},
		{"First and Next", func(j *api.Journal, n int) { j.First, j.Next = n, n }, []int{1, most}, []int{0, most + 1}},
		{"Next", func(j *api.Journal, n int) { j.Next = n }, []int{7, 8, most}, []int{6, 0, -1, most + 1, least, huge}},
		{"Area", func(j *api.Journal, n int) { j.Area = n }, []int{0, 1}, []int{-1, 2, least, huge}},
		{"Length", func(j *api.Journal, n int) { j.Length = n }, []int{0, 1, 3 * api.Sector}, []int{-1, 3*api.Sector + 1, least, huge}},
		{"Start", func(j *api.Journal, n int) { j.Start = n }, []int{2}, []int{-2, -1, 0, 1, 3, 4, 6, least, huge}},
		{"Start, as Place", func(j *api.Journal, n int) { j.Start, j.Place, j.Used = n, n, 0 }, []int{0, 3}, []int{-1, 4, least, huge}},
		{"Start, out of the ring", func(j *api.Journal, n int) { j.Start, j.Place = n, (n+3)%4 }, []int{0, 1, 2, 3}, []int{4, 5, -1, -3, -4}},
		{"Used", func(j *api.Journal, n int) { j.Used = n }, []int{3}, []int{-1, 0, 1, 2, 4, 5, 7, least, huge}},
		{"all of the ring", func(j *api.Journal, n int) { j.Used, j.Place = n, 2 }, []int{0, 4}, []int{-4, 8, 2}},
		{"Place", func(j *api.Journal, n int) { j.Place = n }, []int{1}, []int{-3, 0, 2, 5, least, huge}},
	} {
		for _, n := range c.good {
			j := base
			c.set(&j, n)
			if e := Check(small(), j); e != api.OK {
				t.Errorf("%s %d: %v", c.name, n, e)
			}
		}
		for _, n := range c.bad {
			j := base
			c.set(&j, n)
			if e := Check(small(), j); e != api.ErrState {
				t.Errorf("%s %d: %v, want %v", c.name, n, e, api.ErrState)
			}
		}
	}
	if e := Check(api.Geometry{}, base); e != api.ErrRange {
		t.Errorf("of no geometry: %v", e)
	}
	if e := Check(api.Geometry{}, api.Journal{}); e != api.ErrRange {
		t.Errorf("no journal of no geometry: %v", e)
	}
}

// TestWrongDevices: P2.1: what dev's Check refuses is told ahead of all else.
func TestWrongDevices(t *testing.T) {
	d, j := formatted(t)
	short := twin(d)
	short.Safe = short.Safe[1:]
	for name, f := range calls(j) {
		refuses(t, name+" on no geometry", f(api.Geometry{}, d), api.ErrRange)
		refuses(t, name+" on wrong devices", f(small(), short), api.ErrState)
		refuses(t, name+" on no devices", f(small(), api.Devices{}), api.ErrState)
	}
	for name, f := range calls(api.Journal{}) {
		refuses(t, name+" on no geometry, without a journal", f(api.Geometry{}, d), api.ErrRange)
	}
	long := bytes.Repeat([]byte{1}, 10000)
	refuses(t, "too much committed on no geometry", commit(j, long)(api.Geometry{}, d), api.ErrRange)
	refuses(t, "too much saved on no geometry", save(j, long)(api.Geometry{}, d), api.ErrRange)
}

// TestFullCache: P2.1: what Put refuses is refused, wherever on the way, and no devices are told.
func TestFullCache(t *testing.T) {
	d, j := formatted(t)
	for many := api.MaxWrites - 1; many <= api.MaxWrites; many++ {
		x := twin(d)
		for range many {
			x.Cache = append(x.Cache, api.Write{At: hotAt, Data: sector()})
		}
		for name, f := range calls(j) {
			puts := 2 // at once, ahead of a flush
			if name == "Open" {
				puts = 1
			}
			if many+puts > api.MaxWrites {
				for _, fuel := range []int{-1, api.MaxWrites - many, 5} {
					x.Fuel = fuel
					refuses(t, name+" on a full cache", f(small(), x), api.ErrFull)
				}
			} else if a := f(small(), x); a.e != api.OK {
				t.Errorf("%s on a cache with room: %v", name, a.e)
			}
			x.Fuel = -1
		}
	}
}

// TestFormat: P2.4, thing by thing.
func TestFormat(t *testing.T) {
	j := api.Journal{Gen: 1, Epoch: 1, First: 1, Next: 1}
	d := blank(t)
	d.Cache = []api.Write{{At: 1, Data: sector(9)}, {At: hotAt, Data: sector(8)}}
	does(t, "Format", format, d, j,
		step{0, sector()},
		step{1, sector(0, 0, 0, 1, 0, 0, 0, 1, 0, 0, 0, 0, 0, 0, 0, 0, 0, 0, 1)},
		flush())
	got, _, _ := Format(small(), d)
	if len(got.Cache) != 0 || got.Safe[hotAt][0] != 8 || got.Safe[ringAt][20] != 77 {
		t.Errorf("what else is there: %v", got)
	}
}

// TestFormatAgain: P2.4: of a journal that was there nothing counts any more.
func TestFormatAgain(t *testing.T) {
	g := small()
	for gen := range 3 {
		d, j := formatted(t)
		for range gen {
			d, j, _ = Save(g, d, j, text(30))
		}
		d, j, _ = Commit(g, d, j, text(4))
		d, _, _ = Format(g, d)
		a := open(g, d)
		if a.e != api.OK || len(a.snapshot) != 0 || a.j.Gen != 2 || a.j.First != 1 {
			t.Errorf("of the Gen %d: %v", gen+1, a)
		}
	}
}

// TestSuperblock: P2.3, by its bytes: of a journal all of whose numbers have several.
func TestSuperblock(t *testing.T) {
	g := api.Geometry{Ring: api.MaxRing, Area: api.MaxArea, Hot: api.MinHot, Volume: api.MinVolume, Volumes: 1}
	d, _ := dev.New(g)
	j := api.Journal{Gen: 0x01020, Epoch: 0x0a0b0c, Area: 0, Start: 50, First: 3, Place: 59, Used: 9, Next: 0x0d0e0f}
	for i, n := range []int{0x0203, 5120} {
		var e api.Errno
		d, j, e = Save(g, d, j, text(n))
		if e != api.OK {
			t.Fatal(e)
		}
		want := []byte{0, 0, 0x10, 0x21, 0, 0x0a, 0x0b, 0x0c, 1, 0, 0, 2, 3, 0, 59, 0, 0x0d, 0x0e, 0x0f}
		if i == 1 {
			want = []byte{0, 0, 0x10, 0x22, 0, 0x0a, 0x0b, 0x0c, 0, 0, 0, 0x14, 0, 0, 59, 0, 0x0d, 0x0e, 0x0f}
		}
		if got := d.Safe[1-i]; !bytes.Equal(got, sector(want...)) {
			t.Errorf("Gen %d: % x, want % x", j.Gen, got, want)
		}
	}
}

// TestCommit: P2.5 and P2.6, by the bytes of its frames, thing by thing, round the ring.
func TestCommit(t *testing.T) {
	d, _ := formatted(t)
	j := api.Journal{Gen: 3, Epoch: 0x010203, Area: 1, Length: 5, Start: 1, First: 2, Place: 2, Next: 0x040506, Used: 1}
	frameAt := func(place, index, last, n int, b []byte) step {
		return step{ringAt + place, sector(append([]byte{0, 1, 2, 3, 0, 4, 5, 6, byte(index), byte(last), 0, byte(n)}, b...)...)}
	}
	b := text(130)
	for _, c := range []struct {
		n int
		l []step
	}{
		{0, []step{frameAt(2, 0, 1, 0, nil)}},
		{1, []step{frameAt(2, 0, 1, 1, b[:1])}},
		{51, []step{frameAt(2, 0, 1, 51, b[:51])}},
		{52, []step{frameAt(2, 0, 1, 52, b[:52])}},
		{53, []step{frameAt(2, 0, 0, 52, b[:52]), frameAt(3, 1, 1, 1, b[52:53])}},
		{104, []step{frameAt(2, 0, 0, 52, b[:52]), frameAt(3, 1, 1, 52, b[52:104])}},
		{105, []step{frameAt(2, 0, 0, 52, b[:52]), frameAt(3, 1, 0, 52, b[52:104]), frameAt(0, 2, 1, 1, b[104:105])}},
	} {
		k := j
		k.Place = (2 + len(c.l)) % 4
		k.Used = 1 + len(c.l)
		k.Next = 0x040507
		does(t, "Commit", commit(j, b[:c.n]), d, k, append(c.l, flush())...)
	}
}

// TestCommitRefuses: P2.6, each error, and which one is told of several.
func TestCommitRefuses(t *testing.T) {
	d, _ := formatted(t)
	dead := twin(d)
	dead.Fuel = 0
	at := func(used, next int) api.Journal {
		return api.Journal{Gen: 1, Epoch: 1, Start: 3, First: 1, Place: (3 + used) % 4, Next: next, Used: used}
	}
	for _, c := range []struct {
		used, next, n int
		want          api.Errno
	}{
		{0, 1, 4 * api.Frame, api.OK},
		{0, 1, 4*api.Frame + 1, api.ErrFull},
		{1, 1, 3*api.Frame + 1, api.ErrFull},
		{3, 1, api.Frame, api.OK},
		{3, 1, api.Frame + 1, api.ErrFull},
		{4, 1, 0, api.ErrFull},
		{4, 1, 1, api.ErrFull},
		{0, 1, 100000, api.ErrFull},
		{0, api.MaxNumber - 1, 1, api.OK},
		{0, api.MaxNumber, 1, api.ErrFull},
		{0, api.MaxNumber, 0, api.ErrFull},
		{5, 1, 0, api.ErrState},
		{0, 0, 100000, api.ErrState},
	} {
		a := commit(at(c.used, c.next), make([]byte, c.n))(small(), d)
		if c.want == api.OK && a.e != api.OK {
			t.Errorf("Commit %+v: %v", c, a.e)
		}
		if c.want != api.OK {
			refuses(t, "Commit", a, c.want)
			refuses(t, "Commit on dead devices", commit(at(c.used, c.next), make([]byte, c.n))(small(), dead), c.want)
		}
	}
	refuses(t, "Commit without a journal", commit(api.Journal{}, nil)(small(), d), api.ErrState)
}

// TestSave: P2.7, thing by thing, in the other area.
func TestSave(t *testing.T) {
	d, _ := formatted(t)
	b := text(200)
	for _, n := range []int{0, 1, 63, 64, 65, 128, 129, 192} {
		for area := range 2 {
			j := api.Journal{Gen: 6 + area, Epoch: 5, Area: area, Length: 9, Start: 3, First: 2, Place: 1, Next: 8, Used: 2}
			k := api.Journal{Gen: 7 + area, Epoch: 5, Area: 1 - area, Length: n, Start: 1, First: 8, Place: 1, Next: 8}
			first := []int{area1At, area0At}[area]
			var l []step
			for i := 0; i < n; i += api.Sector {
				l = append(l, step{first + i/api.Sector, b[i:min(i+api.Sector, n)]})
			}
			l = append(l, flush(), step{1 - area, superblock(k)}, flush())
			does(t, "Save", save(j, b[:n]), d, k, l...)
		}
	}
}

// TestSaveRefuses: P2.7, each error, and which one is told of several.
func TestSaveRefuses(t *testing.T) {
	d, j := formatted(t)
	dead := twin(d)
	dead.Fuel = 0
	last := j
	last.Gen = api.MaxNumber
	before := j
	before.Gen = api.MaxNumber - 1
	for _, c := range []struct {
		j    api.Journal
		n    int
		want api.Errno
	}{
		{j, 3*api.Sector + 1, api.ErrFull},
		{j, 100000, api.ErrFull},
		{last, 0, api.ErrFull},
		{last, 100000, api.ErrFull},
		{api.Journal{}, 0, api.ErrState},
		{api.Journal{Gen: api.MaxNumber}, 100000, api.ErrState},
	} {
		refuses(t, "Save", save(c.j, make([]byte, c.n))(small(), d), c.want)
		refuses(t, "Save on dead devices", save(c.j, make([]byte, c.n))(small(), dead), c.want)
	}
	if a := save(before, nil)(small(), d); a.e != api.OK || a.j.Gen != api.MaxNumber {
		t.Errorf("Save of the last Gen: %v", a)
	}
	full := api.Journal{Gen: 1, Epoch: 1, First: 1, Next: api.MaxNumber, Used: 4}
	if a := save(full, text(3*api.Sector))(small(), d); a.e != api.OK || a.j.First != api.MaxNumber || a.j.Used != 0 {
		t.Errorf("Save of a full ring: %v", a)
	}
}

// TestShared: nothing that is handed in is changed, spare room neither; what is answered is new memory.
func TestShared(t *testing.T) {
	d, j := formatted(t)
	d, j, _ = Save(small(), d, j, text(100))
	d, j, _ = Commit(small(), d, j, text(10))
	d, j, _ = Commit(small(), d, j, text(1))
	d.Cache = append(d.Cache, api.Write{At: hotAt, Data: sector(1)})
	spare := append(text(50), bytes.Repeat([]byte{0xaa}, 100)...)
	l := calls(j)
	l["Commit with spare room"] = commit(j, spare[:50])
	l["Save with spare room"] = save(j, spare[:50])
	for name, f := range l {
		for _, fuel := range []int{-1, 0, 1} {
			x := roomy(d)
			x.Fuel = fuel
			was := wholes(x)
			a := f(small(), x)
			if a.e != api.OK && a.e != api.ErrDown {
				t.Fatalf("%s with the fuel %d: %v", name, fuel, a.e)
			}
			all := append(append(lists(a.d), a.l...), a.snapshot)
			for i, b := range all {
				for _, c := range append(append(all[:i:i], lists(x)...), spare) {
					if overlap(b, c) {
						t.Fatalf("%s with the fuel %d: memory is shared", name, fuel)
					}
				}
				for k := range b[:cap(b)] {
					b[:cap(b)][k] = 0xee
				}
			}
			a.d.Safe[0] = nil
			if len(a.d.Cache) > 0 {
				a.d.Cache[0].At = -7
			}
			a.d.Volumes[0].Synced = -7
			if !reflect.DeepEqual(was, wholes(x)) {
				t.Errorf("%s with the fuel %d: what was handed in is another", name, fuel)
			}
		}
	}
	if !bytes.Equal(spare, append(text(50), bytes.Repeat([]byte{0xaa}, 100)...)) {
		t.Error("spare room is written to")
	}
}

// roomy: the same devices, with spare room, full of marks, behind each list.
func roomy(d api.Devices) api.Devices {
	with := func(b []byte) []byte {
		return append(append(make([]byte, 0, len(b)+100), b...), bytes.Repeat([]byte{0xaa}, 100)...)[:len(b)]
	}
	d = twin(d)
	for i, b := range d.Safe {
		d.Safe[i] = with(b)
	}
	for i, w := range d.Cache {
		d.Cache[i].Data = with(w.Data)
	}
	for i, v := range d.Volumes {
		d.Volumes[i].Data = with(v.Data)
	}
	d.Safe = append(d.Safe, []byte("mark"))[:len(d.Safe)]
	d.Cache = append(d.Cache, api.Write{At: 99})[:len(d.Cache)]
	d.Volumes = append(d.Volumes, api.Volume{Synced: 99})[:len(d.Volumes)]
	return d
}

// wholes: what stands in devices and in the spare room of their lists.
func wholes(d api.Devices) api.Devices {
	out := api.Devices{Fuel: d.Fuel}
	for _, b := range d.Safe[:cap(d.Safe)] {
		out.Safe = append(out.Safe, bytes.Clone(b[:cap(b)]))
	}
	for _, w := range d.Cache[:cap(d.Cache)] {
		out.Cache = append(out.Cache, api.Write{At: w.At, Data: bytes.Clone(w.Data[:cap(w.Data)])})
	}
	for _, v := range d.Volumes[:cap(d.Volumes)] {
		out.Volumes = append(out.Volumes, api.Volume{Data: bytes.Clone(v.Data[:cap(v.Data)]), Synced: v.Synced, Gone: v.Gone})
	}
	return out
}
