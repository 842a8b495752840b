package hot

import (
	"bytes"
	"slices"
	"testing"

	"icehouse/api"
	"icehouse/dev"
)

// lists of sectors of roomy(), and the bytes that they are to hold.
var held = []struct {
	name string
	l    []int
	size int
	good bool
}{
	{"none, in none", nil, 0, true},
	{"none, in a list without any", []int{}, 0, true},
	{"none, in one", []int{0}, 0, false},
	{"one, in none", nil, 1, false},
	{"one, in one", []int{0}, 1, true},
	{"one, in two", []int{0, 1}, 1, false},
	{"a sector less one", []int{5}, api.Sector - 1, true},
	{"a sector", []int{5}, api.Sector, true},
	{"a sector, in two", []int{5, 6}, api.Sector, false},
	{"a sector and one, in one", []int{5}, api.Sector + 1, false},
	{"a sector and one, in two", []int{5, 6}, api.Sector + 1, true},
	{"two sectors", []int{6, 5}, 2 * api.Sector, true},
	{"not in their order", []int{11, 0, 7}, 150, true},
	{"the most", counting(10), api.MaxBody, true},
	{"the most, in too few", counting(9), api.MaxBody, false},
	{"the most, in too many", counting(11), api.MaxBody, false},
	{"one too many", counting(10), api.MaxBody + 1, false},
	{"sectors that are full, too many", counting(10), 10 * api.Sector, false},
	{"far too many", counting(12), 12 * api.Sector, false},
	{"the last sector", []int{11}, 9, true},
	{"the one behind the last", []int{12}, 9, false},
	{"the one ahead of the first", []int{-1}, 9, false},
	{"a sector of the ring", []int{-hotAt + 2}, 9, false},
	{"the least number", []int{least}, 9, false},
	{"the greatest number", []int{huge}, 9, false},
	{"the second one is no sector", []int{3, 12}, 100, false},
	{"the second one is below all", []int{3, -1}, 100, false},
	{"the last one is no sector", []int{3, 4, 12}, 150, false},
	{"one twice", []int{3, 3}, 100, false},
	{"the first one twice", []int{3, 4, 3}, 150, false},
	{"the last one twice", []int{4, 3, 3}, 150, false},
}

// TestHolds: P5.1: which lists hold so many bytes, for Write and Read alike.
func TestHolds(t *testing.T) {
	d := blank(t)
	for _, c := range held {
		want := api.OK
		if !c.good {
			want = api.ErrRange
		}
		got, e := Write(roomy(), d, c.l, text(c.size))
		if e != want || want != api.OK && !same(got, api.Devices{}) {
			t.Errorf("Write, %s: %v, want %v", c.name, e, want)
		}
		b, e := Read(roomy(), d, c.l, c.size)
		if e != want || want != api.OK && len(b) != 0 {
			t.Errorf("Read, %s: %v, want %v; %d bytes", c.name, e, want, len(b))
		}
	}
	for _, n := range []int{-1, -api.Sector, least, huge, 1 << 20} {
		for _, l := range [][]int{nil, {0}, {0, 1}} {
			if b, e := Read(roomy(), d, l, n); e != api.ErrRange || len(b) != 0 {
				t.Errorf("Read of %d bytes from %v: %v", n, l, e)
			}
		}
	}
}

// TestHoldsByGeometry: P5.1: how many sectors there are, and where they begin, is said by the geometry.
func TestHoldsByGeometry(t *testing.T) {
	for _, c := range []struct {
		g  api.Geometry
		at int
	}{
		{api.Geometry{Ring: api.MinRing, Area: api.MinArea, Hot: api.MinHot, Volume: api.MinVolume, Volumes: 1}, 10},
		{api.Geometry{Ring: api.MaxRing, Area: api.MaxArea, Hot: api.MaxHot, Volume: api.MaxVolume, Volumes: api.MaxVolumes}, 222},
		{api.Geometry{Ring: 4, Area: 7, Hot: 3, Volume: 100, Volumes: 1}, 20},
		{api.Geometry{Ring: 9, Area: 2, Hot: 4, Volume: 100, Volumes: 1}, 15},
	} {
		d, _ := dev.New(c.g)
		for _, n := range []int{0, 1, c.g.Hot - 1} {
			got, e := Write(c.g, d, []int{n}, []byte("x"))
			if e != api.OK {
				t.Errorf("%v: sector %d: %v", c.g, n, e)
				continue
			}
			for at, b := range got.Safe {
				if put := b[0] == 'x'; put != (at == c.at+n) {
					t.Errorf("%v: sector %d: put at %d: %v", c.g, n, at, put)
				}
			}
			if b, e := Read(c.g, got, []int{n}, 1); e != api.OK || string(b) != "x" {
				t.Errorf("%v: sector %d: read %q, %v", c.g, n, b, e)
			}
		}
		if _, e := Write(c.g, d, []int{c.g.Hot}, []byte("x")); e != api.ErrRange {
			t.Errorf("%v: one behind the last: %v", c.g, e)
		}
	}
}

// TestWrite: P5.2: thing by thing, whenever the devices die.
func TestWrite(t *testing.T) {
	g := roomy()
	for _, c := range []struct {
		l    []int
		size int
	}{
		{nil, 0},
		{[]int{0}, 1},
		{[]int{11}, api.Sector},
		{[]int{7, 2}, api.Sector + 1},
		{[]int{9, 0, 4}, 150},
		{[]int{11, 10, 9, 8, 7, 6, 5, 4, 3, 2}, api.MaxBody},
	} {
		b := text(c.size)
		for fuel := -1; fuel <= len(c.l)+2; fuel++ {
			d := blank(t)
			// What was put ahead of it is flushed with it, and is not in its way.
			d.Cache = []api.Write{{At: hotAt + 11, Data: sector([]byte("old"))}, {At: 3, Data: sector([]byte("else"))}}
			d.Fuel = fuel
			want, code := twin(d), api.OK
			for i, n := range c.l {
				out, e := dev.Put(g, want, hotAt+n, b[i*api.Sector:min(len(b), (i+1)*api.Sector)])
				if e != api.OK {
					code = e
					break
				}
				want = out
			}
			if out, e := dev.Flush(g, want); code == api.OK && e == api.OK {
				want = out
			} else {
				code = api.ErrDown
			}
			got, e := Write(g, d, c.l, b)
			if e != code || !same(got, want) {
				t.Errorf("%d bytes, fuel %d: %v, want %v\ngot  %v\nwant %v", c.size, fuel, e, code, got, want)
			}
			if dies := fuel >= 0 && fuel <= len(c.l); dies != (e == api.ErrDown) {
				t.Errorf("%d bytes, fuel %d: %v", c.size, fuel, e)
			}
		}
	}
}

// TestWriteFills: P5.2 and P1.5: what is left of the last sector is zeros, and nothing else is changed.
func TestWriteFills(t *testing.T) {
	d := blank(t)
	b := text(api.Sector + 3)
	got, e := Write(roomy(), d, []int{4, 1}, b)
	if e != api.OK || len(got.Cache) != 0 {
		t.Fatalf("%v, %d writes in the cache", e, len(got.Cache))
	}
	want := twin(d)
	want.Safe[hotAt+4] = b[:api.Sector]
	want.Safe[hotAt+1] = sector(b[api.Sector:])
	if !same(got, want) {
		t.Errorf("got  %v\nwant %v", got, want)
	}
}

// TestFullCache: P5.2: what Put refuses is refused, wherever on the way, and no devices are told.
func TestFullCache(t *testing.T) {
	d := blank(t)
	for range api.MaxWrites - 1 {
		d.Cache = append(d.Cache, api.Write{At: 0, Data: sector(nil)})
	}
	for _, c := range []struct {
		l    []int
		fuel int
		want api.Errno
	}{
		{nil, -1, api.OK},
		{[]int{0}, -1, api.OK},
		{[]int{0, 1}, -1, api.ErrFull},
		{[]int{0, 1}, 9, api.ErrFull},
		{[]int{0, 1}, 1, api.ErrFull}, // Put looks for room ahead of the fuel.
		{[]int{0, 1}, 0, api.ErrDown},
		{[]int{0}, 1, api.ErrDown},
	} {
		d.Fuel = c.fuel
		got, e := Write(roomy(), d, c.l, text(len(c.l)*api.Sector))
		if e != c.want || e == api.ErrFull && !same(got, api.Devices{}) {
			t.Errorf("%v, fuel %d: %v, want %v", c.l, c.fuel, e, c.want)
		}
	}
}

// TestRead: P5.3: sector by sector, in the list's order, what was put last; nothing needs to be alive for it.
func TestRead(t *testing.T) {
	d := blank(t)
	d.Cache = []api.Write{
		{At: hotAt + 2, Data: sector([]byte("older"))},
		{At: hotAt + 2, Data: sector([]byte("newer"))},
		{At: 2, Data: sector([]byte("another"))},
	}
	d.Fuel = 0
	nine, zero := bytes.Repeat([]byte{100 + hotAt + 9}, api.Sector), bytes.Repeat([]byte{100 + hotAt}, api.Sector)
	newer := sector([]byte("newer"))
	for _, c := range []struct {
		l    []int
		size int
		want []byte
	}{
		{nil, 0, nil},
		{[]int{2}, 1, []byte("n")},
		{[]int{2}, 7, []byte("newer\x00\x00")},
		{[]int{9}, api.Sector, nine},
		{[]int{9, 2}, api.Sector + 2, slices.Concat(nine, []byte("ne"))},
		{[]int{2, 9}, api.Sector + 2, slices.Concat(newer, nine[:2])},
		{[]int{9, 2, 0}, 3 * api.Sector, slices.Concat(nine, newer, zero)},
		{[]int{0, 9, 2}, 2*api.Sector + 1, slices.Concat(zero, nine, newer[:1])},
	} {
		if b, e := Read(roomy(), d, c.l, c.size); e != api.OK || !bytes.Equal(b, c.want) {
			t.Errorf("%d bytes of %v: %v, %q", c.size, c.l, e, b)
		}
	}
}

// TestReadWritten: P5.2 and P5.3: bodies of all sizes are read as they were written.
func TestReadWritten(t *testing.T) {
	d := blank(t)
	for size := range api.MaxBody + 1 {
		var l []int
		for i := range (size + api.Sector - 1) / api.Sector {
			l = append(l, (size+5*i)%12)
		}
		b := text(size)
		got, e := Write(roomy(), d, l, b)
		if e != api.OK {
			t.Fatalf("%d bytes: %v", size, e)
		}
		if read, e := Read(roomy(), got, l, size); e != api.OK || !bytes.Equal(read, b) {
			t.Errorf("%d bytes: %v, %q", size, e, read)
		}
		d = got
	}
}

// TestWrongDevices: P5.2, P5.3: what dev's Check refuses is told ahead of a list that does not hold them.
func TestWrongDevices(t *testing.T) {
	short := blank(t)
	short.Safe = short.Safe[1:]
	for _, c := range []struct {
		name string
		g    api.Geometry
		d    api.Devices
		want api.Errno
	}{
		{"no geometry", api.Geometry{}, blank(t), api.ErrRange},
		{"no devices", roomy(), api.Devices{}, api.ErrState},
		{"a sector too few", roomy(), short, api.ErrState},
		{"of another geometry", api.Geometry{Ring: 5, Area: 3, Hot: 13, Volume: 1000, Volumes: 3}, blank(t), api.ErrState},
	} {
		for _, l := range [][]int{nil, {0}, {-1}, {12}} {
			if got, e := Write(c.g, c.d, l, []byte("x")); e != c.want || !same(got, api.Devices{}) {
				t.Errorf("Write, %s, %v: %v, want %v", c.name, l, e, c.want)
			}
			if b, e := Read(c.g, c.d, l, 1); e != c.want || len(b) != 0 {
				t.Errorf("Read, %s, %v: %v, want %v", c.name, l, e, c.want)
			}
		}
	}
}

// TestDeadLast: P5.2: dead devices are told of behind all that is refused else.
func TestDeadLast(t *testing.T) {
	d := blank(t)
	d.Fuel = 0
	if got, e := Write(roomy(), d, []int{12}, []byte("x")); e != api.ErrRange || !same(got, api.Devices{}) {
		t.Errorf("a list that does not hold it: %v", e)
	}
	if got, e := Write(roomy(), d, []int{1}, []byte("x")); e != api.ErrDown || !same(got, d) {
		t.Errorf("dead from the beginning on: %v, %v", e, got)
	}
}

// TestMemory: what is handed in is not changed, and what comes out shares nothing with it.
func TestMemory(t *testing.T) {
	for fuel := -1; fuel < 4; fuel++ {
		d := blank(t)
		d.Cache = []api.Write{{At: 1, Data: sector(nil)}}
		d.Fuel = fuel
		before := twin(d)
		b, l := spare(text(100)), []int{6, 3, 9, 9}[:2]
		got, _ := Write(roomy(), d, l, b)
		if !same(d, before) || !bytes.Equal(b, text(100)) || !untouched(b) || !slices.Equal(l[:4], []int{6, 3, 9, 9}) {
			t.Errorf("fuel %d: what was handed in is changed", fuel)
		}
		all := lists(got)
		for i, x := range all {
			for _, y := range append(append(all[:i:i], lists(d)...), b) {
				if overlap(x, y) {
					t.Fatalf("fuel %d: memory is shared", fuel)
				}
			}
		}
		read, _ := Read(roomy(), got, l, 100)
		for _, y := range all {
			if overlap(read, y) {
				t.Fatal("what is read shares memory with the devices")
			}
		}
		if !slices.Equal(l[:4], []int{6, 3, 9, 9}) {
			t.Error("Read changed the list")
		}
	}
}

// TestCrash: what was written is there behind every crash, and what is written elsewhere in the meantime does not touch it.
func TestCrash(t *testing.T) {
	g := roomy()
	d, e := Write(g, blank(t), []int{5, 8}, text(100))
	if e != api.OK {
		t.Fatal(e)
	}
	for fuel := range 5 {
		x := twin(d)
		x.Fuel = fuel
		x, e = Write(g, x, []int{6, 7, 4}, text(180))
		for bits := range 8 {
			y, _ := dev.Crash(g, x, []bool{bits&1 > 0, bits&2 > 0, bits&4 > 0}, 0)
			if b, _ := Read(g, y, []int{5, 8}, 100); !bytes.Equal(b, text(100)) {
				t.Errorf("fuel %d, %b: lost: %q", fuel, bits, b)
			}
			if b, _ := Read(g, y, []int{6, 7, 4}, 180); e == api.OK && !bytes.Equal(b, text(180)) {
				t.Errorf("fuel %d, %b: written, and lost: %q", fuel, bits, b)
			}
		}
	}
}
