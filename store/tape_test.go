package store

import (
	"testing"

	"icehouse/api"
	"icehouse/hot"
)

// packed: bytes of pieces from a place on.
func packed(t *testing.T, at int, ids []int, bodies ...string) []byte {
	t.Helper()
	var l [][]byte
	for _, b := range bodies {
		l = append(l, []byte(b))
	}
	b, _, e := hot.Pack(at, ids, l)
	if e != api.OK {
		t.Fatal(e)
	}
	return b
}

// freeze record.
func freeze(id, volume, at int) api.Record {
	return api.Record{Kind: api.Freeze, Id: id, Volume: volume, At: at}
}

// TestArchive: P8.10: a piece on tape, marked, then the record.
func TestArchive(t *testing.T) {
	o := plays(t, geo(), `
		bucket a => ok
		put a k 100*c => 1
		put a x 70*d => 2
		archive a k => 1
		archive a x => 1
		put a y z => 3
	`)
	h := newHand(t, geo())
	h.commit(bucketRecord("a"))
	h.write(text(100, 'c'), 0, 1)
	h.commit(versionRecord(hotOne(1, 100, 0, 1)))
	h.write(text(70, 'd'), 2, 3)
	v := hotOne(2, 70, 2, 3)
	v.Key = "x"
	h.commit(versionRecord(v))
	h.tape(0, packed(t, 0, []int{1}, text(100, 'c')))
	h.commit(freeze(1, 0, 0))
	h.tape(0, packed(t, 106, []int{2}, text(70, 'd')))
	h.commit(freeze(2, 0, 106))
	h.write("z", 0)
	v = hotOne(3, 1, 0)
	v.Key = "y"
	h.commit(versionRecord(v))
	h.same(o)
	same(t, "a cold one", versionOf(t, o.State, 2), api.Version{Id: 2, Bucket: "a", Key: "x", Null: true, Size: 70, Tier: api.Cold, At: 106})
}

// TestArchiveRefused: P8.10: cold or warm ones; and those for which no volume has room.
func TestArchiveRefused(t *testing.T) {
	g := geo()
	g.Volumes = 2
	o := plays(t, g, `
		bucket a => ok
		put a k 300*c => 1
		archive a k => 1
		archive a k => cold
		restore a k 0 1 => 1
		archive a k => cold
		serve => 1
		archive a k => cold
		tick 5 => ok
		archive a k => cold
		sweep => 1
		put a x 88*c => 2
		archive a x => 1
		put a y - => 3
		archive a y => 1
		put a z 394*c => 4
		archive a z => full
		erase a z => 4
		put a z 389*c => 5
		archive a z => full
		erase a z => 5
		put a z 388*c => 6
		archive a z => 1
		put a w - => 7
		archive a w => full
	`)
	for i, want := range []int{400, 400} {
		if got := len(o.Devices.Volumes[i].Data); got != want {
			t.Errorf("volume %d has %d bytes, want %d", i, got, want)
		}
	}
	same(t, "the first of a new volume", versionOf(t, o.State, 3), api.Version{Id: 3, Bucket: "a", Key: "y", Null: true, Time: 5, Tier: api.Cold, Volume: 1})
	g.Volume = 100
	plays(t, g, `
		bucket a => ok
		put a k 95*c => 1
		archive a k => full
		put a k 94*c => 2
		archive a k => 1
	`)
}

// TestPack: P8.10: those that rules say, one behind the other, as long as there is room on one volume.
func TestPack(t *testing.T) {
	acts := `
		bucket a => ok
		bucket b => ok
		put a k 100*c => 1
		put b k 50*d => 2
		put a l 90*e => 3
		put a m 100*f => 4
		put a n z => 5
		archive b k => 1
		pack => idle
		rule a - 2 -1 => ok
		tick 1 => ok
		pack => idle
		put a z y => 6
		tick 1 => ok
	`
	h := newHand(t, geo())
	o := plays(t, geo(), acts)
	h.d, h.j = o.Devices, o.Journal
	h.tape(0, packed(t, 56, []int{1, 3, 4, 5}, text(100, 'c'), text(90, 'e'), text(100, 'f'), "z"))
	h.commit(freeze(1, 0, 56), freeze(3, 0, 162), freeze(4, 0, 258), freeze(5, 0, 364))
	h.same(plays(t, geo(), acts+"pack => 4"))
	// With one byte less of room each version behind it waits, be it as small as it may.
	g := geo()
	g.Volume = 363
	o = plays(t, g, acts+`
		pack => 2
		get a k => cold 1 cold@0
		get a l => cold 3 cold@0
		get a m => 4 hot@0 =100*f
		pack => 2
		pack => idle
		tick 1 => ok
		pack => 1
	`)
	at := func(id, volume, at int) {
		t.Helper()
		if v := versionOf(t, o.State, id); v.Tier != api.Cold || v.Volume != volume || v.At != at {
			t.Errorf("%+v, want the volume %d, and %d", v, volume, at)
		}
	}
	at(1, 0, 56)
	at(3, 0, 162)
	at(4, 1, 0)
	at(5, 1, 106)
	at(6, 1, 113)
}

// TestPackBegins: P8.10: a new volume, if the first one has no room on the last one; ErrFull, if there may be none.
func TestPackBegins(t *testing.T) {
	acts := `
		bucket a => ok
		rule a - 0 -1 => ok
		put a k 300*c => 1
		pack => 1
		put a l 95*d => 2
		put a m 10*e => 3
	`
	o := plays(t, geo(), acts+"pack => 2")
	if v := versionOf(t, o.State, 3); v.Volume != 1 || v.At != 101 || len(o.Devices.Volumes) != 2 {
		t.Errorf("%+v, %d volumes", v, len(o.Devices.Volumes))
	}
	g := geo()
	g.Volumes = 1
	ahead := plays(t, g, acts)
	o = plays(t, g, acts+"pack => full")
	same(t, "all", show(o.State, o.Devices, o.Journal), show(ahead.State, ahead.Devices, ahead.Journal))
}

// TestRestore: P8.12: asked for with days and a class, served by class, as they came.
func TestRestore(t *testing.T) {
	acts := `
		bucket a => ok
		put a k 100*c => 1
		put a l 70*d => 2
		put a m - => 3
		archive a k => 1
		archive a l => 1
		archive a m => 1
		restore a k 0 4 1 => 1
		restore a l 2 1 2 => 2
		restore a m 0 1000 1 => 3
		restore a m 0 1 0 => wait
	`
	o := plays(t, geo(), acts)
	same(t, "the queue", o.State.Queue, []api.Ask{{Version: 1, Days: 4, Class: 1}, {Version: 2, Days: 1, Class: 2}, {Version: 3, Days: 1000, Class: 1}})
	acts += "tick 7 => ok\nput a q x => 4\n"
	h := newHand(t, geo())
	o = plays(t, geo(), acts)
	h.d, h.j = o.Devices, o.Journal
	h.write(text(100, 'c'), 1, 2)
	h.commit(api.Record{Kind: api.Thaw, Id: 1, Sectors: []int{1, 2}, N: 11})
	h.same(plays(t, geo(), acts+"serve => 1"))
	o = plays(t, geo(), acts+`
		serve => 1
		serve => 3
		serve => 2
		serve => idle
		restore a k 0 1 => warm
		get a k => 1 warm@11 =100*c
		get a l => 2 warm@8 =70*d
		get a m => 3 warm@1007
	`)
	same(t, "a warm one", versionOf(t, o.State, 1), api.Version{Id: 1, Bucket: "a", Key: "k", Null: true, Size: 100, Tier: api.Warm, Sectors: []int{1, 2}, Until: 11})
}

// TestRestoreRefused: P8.12: what is refused, and what of it is told first.
func TestRestoreRefused(t *testing.T) {
	acts := `
		bucket a => ok
		put a k 100*c => 1
		restore b k 0 0 9 => none
		restore a l 0 0 9 => none
		restore a k 2 0 9 => none
		restore a k 0 0 9 => warm
		archive a k => 1
		restore a k 0 0 => range
		restore a k 0 1001 => range
		restore a k 0 -1 => range
		restore a k 0 1 3 => range
		restore a k 0 1 -1 => range
		restore a k 1 1000 2 => 1
		restore a k 1 0 3 => wait
		put a l 480*c => 2
	`
	// One sector is free, two are needed: it is asked for still.
	o := plays(t, geo(), acts+"serve => full\nserve => full")
	ahead := plays(t, geo(), acts)
	same(t, "all", show(o.State, o.Devices, o.Journal), show(ahead.State, ahead.Devices, ahead.Journal))
	for _, n := range []int{huge, least} {
		for _, a := range []api.Act{{M: n}, {M: 1, L: n}} {
			a.Kind, a.Name, a.Key = api.Restore, "a", "k"
			o, e := Run(geo(), []api.Act{act("bucket a"), act("put a k x"), act("archive a k"), a})
			if e != api.OK || o.Answers[3].Code != api.ErrRange {
				t.Errorf("%+v: %v, %+v", a, e, o.Answers[3])
			}
		}
	}
}

// TestQueueFull: P8.12: no more than MaxQueue are asked for.
func TestQueueFull(t *testing.T) {
	s := "bucket a => ok\nmode a 1 => ok\nrule a - 0 -1 => ok\n" + fill(1, 11) + "pack => 11\n"
	for id := 1; id <= api.MaxQueue; id++ {
		s += "restore a k " + show(id)[1:len(show(id))-1] + " 1 => " + show(id)[1:len(show(id))-1] + "\n"
	}
	plays(t, roomy(), s+"restore a k 11 1 => full\nrestore a k 11 0 => range\nserve => 1\nrestore a k 11 1 => 11")
}

// TestServeEnd: P8.12: the Clock and the Days may be beyond the last time.
func TestServeEnd(t *testing.T) {
	o := plays(t, geo(), `
		bucket a => ok
		put a k x => 1
		archive a k => 1
		restore a k 0 1000 => 1
		tick 1073741824 => ok
		tick 1 => range
		serve => 1
		get a k => 1 warm@1073742824 =x
		checkpoint => ok
		recover - 0 => ok
		get a k => 1 warm@1073742824 =x
	`)
	if v := versionOf(t, o.State, 1); v.Until != api.MaxTime+api.MaxDays {
		t.Errorf("%+v", v)
	}
}

// TestSweep: P8.13: copies whose time is over, then what rules say is to be dropped, together.
func TestSweep(t *testing.T) {
	acts := `
		bucket a => ok
		bucket b => ok
		put a k 100*c => 1
		put b l 70*d => 2
		put a m - => 3
		put b n x => 4
		archive a k => 1
		archive b l => 1
		restore a k 0 2 => 1
		restore b l 0 2 => 2
		serve => 1
		serve => 2
		sweep => idle
		tick 2 => ok
		rule b - -1 2 => ok
	`
	o := plays(t, geo(), acts)
	h := newHand(t, geo())
	h.d, h.j = o.Devices, o.Journal
	chill := func(id int) api.Record { return api.Record{Kind: api.Chill, Id: id} }
	drop := func(id int) api.Record { return api.Record{Kind: api.DropOne, Id: id} }
	h.commit(chill(1), chill(2), drop(2), drop(4))
	o = plays(t, geo(), acts+"sweep => 4")
	h.same(o)
	if len(o.State.Versions) != 2 || versionOf(t, o.State, 1).Tier != api.Cold {
		t.Errorf("%+v", o.State.Versions)
	}
	plays(t, geo(), acts+`
		sweep => 4
		sweep => idle
		rule a - -1 3 => ok
		sweep => idle
		mode a 1 => ok
		delete a q => 5
		tick 1 => ok
		sweep => 2
		tick 2 => ok
		sweep => 1
		versions a - 9 => ok
	`)
}

// half: a volume of which no more than half lives, and another one behind it.
const half = `
	bucket a => ok
	put a k 100*c => 1
	put a l 10*d => 2
	put a m 152*e => 3
	put a n 30*f => 4
	archive a k => 1
	archive a l => 1
	archive a m => 1
	archive a n => 1
	put a q 90*g => 5
	archive a q => 1
	compact => idle
	erase a m => 3
	compact => 3
`

// TestCompact: P8.14: what lives is moved, the volume is given up with it, and taken away.
func TestCompact(t *testing.T) {
	h := newHand(t, geo())
	o := plays(t, geo(), half[:len(half)-len("\tcompact => 3\n")])
	h.d, h.j = o.Devices, o.Journal
	h.tape(1, packed(t, 96, []int{1, 2, 4}, text(100, 'c'), text(10, 'd'), text(30, 'f')))
	h.commit(freeze(1, 1, 96), freeze(2, 1, 202), freeze(4, 1, 218), api.Record{Kind: api.GiveUp})
	h.take(0)
	o = plays(t, geo(), half)
	h.same(o)
	same(t, "what is given up", o.State.Gone, []int{0})
	plays(t, geo(), half+`
		compact => idle
		restore a l 0 1 => 2
		serve => 2
		get a l => 2 warm@1 =10*d
		restore a k 0 1 => 1
		serve => 1
		get a k => 1 warm@1 =100*c
		compact => idle
		erase a k => 1
		compact => idle
		erase a q => 5
		compact => 2
		get a l => 2 warm@1 =10*d
		tick 1 => ok
		sweep => 1
		get a l => cold 2 cold@0
		restore a l 0 1 => 2
		serve => 2
		get a l => 2 warm@2 =10*d
		erase a l => 2
		erase a n => 4
		compact => ok
		put a z - => 6
		archive a z => full
	`)
}

// TestCompactEmpty: P8.14: if nothing lives there the volume is given up alone.
func TestCompactEmpty(t *testing.T) {
	acts := `
		bucket a => ok
		put a k 100*c => 1
		archive a k => 1
		erase a k => 1
	`
	h := newHand(t, geo())
	o := plays(t, geo(), acts)
	h.d, h.j = o.Devices, o.Journal
	h.commit(api.Record{Kind: api.GiveUp})
	h.take(0)
	o = plays(t, geo(), acts+"compact => ok")
	h.same(o)
	same(t, "what is given up", o.State.Gone, []int{0})
}

// TestCompactFull: P8.14: there is no place but the volume itself.
func TestCompactFull(t *testing.T) {
	g := geo()
	g.Volumes = 1
	acts := `
		bucket a => ok
		put a k 100*c => 1
		put a l 100*d => 2
		archive a k => 1
		archive a l => 1
		erase a k => 1
	`
	ahead := plays(t, g, acts)
	o := plays(t, g, acts+"compact => full")
	same(t, "all", show(o.State, o.Devices, o.Journal), show(ahead.State, ahead.Devices, ahead.Journal))
	// The one behind it has room for one of them, but not for both together.
	g.Volumes = 2
	acts = `
		bucket a => ok
		put a k 90*c => 1
		put a l 90*d => 2
		put a m 196*e => 3
		archive a k => 1
		archive a l => 1
		archive a m => 1
		put a n 290*f => 4
		archive a n => 1
		erase a m => 3
	`
	plays(t, g, acts+"compact => full")
	g.Volumes = 3
	o = plays(t, g, acts+"compact => 2")
	if v := versionOf(t, o.State, 1); v.Volume != 2 || !o.Devices.Volumes[0].Gone {
		t.Errorf("%+v, %+v", v, o.Devices.Volumes)
	}
}
