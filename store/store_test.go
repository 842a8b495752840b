package store

import (
	"testing"

	"icehouse/api"
	"icehouse/hot"
)

// many acts of no kind that there is.
func many(n int) []api.Act { return make([]api.Act, n) }

// TestRunRefused: P8.1: a geometry that may not be, ahead of too many acts; nothing is told beside it.
func TestRunRefused(t *testing.T) {
	with := func(change func(g *api.Geometry)) api.Geometry {
		g := geo()
		change(&g)
		return g
	}
	for i, g := range []api.Geometry{
		{},
		with(func(g *api.Geometry) { g.Ring = api.MinRing - 1 }),
		with(func(g *api.Geometry) { g.Area = api.MaxArea + 1 }),
		with(func(g *api.Geometry) { g.Hot = huge }),
		with(func(g *api.Geometry) { g.Volume = least }),
		with(func(g *api.Geometry) { g.Volumes = 0 }),
	} {
		for _, n := range []int{0, 1, api.MaxActs + 1} {
			if o, e := Run(g, many(n)); e != api.ErrRange || show(o) != show(api.Outcome{}) {
				t.Errorf("geometry %d, %d acts: %v, %+v", i, n, e, o)
			}
		}
	}
	for _, n := range []int{api.MaxActs + 1, api.MaxActs + 777} {
		if o, e := Run(geo(), many(n)); e != api.ErrSize || show(o) != show(api.Outcome{}) {
			t.Errorf("%d acts: %v, %+v", n, e, o)
		}
	}
	if o, e := Run(geo(), many(api.MaxActs)); e != api.OK || len(o.Answers) != api.MaxActs {
		t.Errorf("the most acts: %v, %d answers", e, len(o.Answers))
	}
}

// TestNothingDone: P8.1: new devices, formatted, a state with Next alone; it is up.
func TestNothingDone(t *testing.T) {
	for _, g := range []api.Geometry{
		geo(), roomy(),
		{Ring: api.MinRing, Area: api.MinArea, Hot: api.MinHot, Volume: api.MinVolume, Volumes: 1},
	} {
		h := newHand(t, g)
		for _, l := range [][]api.Act{nil, {}, many(3)} {
			o, e := Run(g, l)
			if e != api.OK || !o.Up || len(o.Answers) != len(l) {
				t.Errorf("%v, up: %v, %d answers", e, o.Up, len(o.Answers))
			}
			same(t, "the state", o.State, api.State{Next: 1})
			h.same(o)
		}
	}
}

// TestDown: P8.2: whenever the devices die in the midst of a put, they are told as they are then, and no state and no journal.
func TestDown(t *testing.T) {
	g := geo()
	for fuel := range 8 {
		h := newHand(t, g)
		h.commit(bucketRecord("a"))
		h.d.Fuel = fuel
		h.write(text(100, 'c'), 0, 1)
		if h.d.Fuel > 0 {
			h.commit(versionRecord(hotOne(1, 100, 0, 1)))
		}
		o, e := Run(g, []api.Act{act("bucket a"), {Kind: api.Arm, N: fuel}, act("put a k 100*c")})
		if e != api.OK {
			t.Fatal(e)
		}
		// Two sectors, a flush; a frame, a flush.
		if fuel < 5 {
			h.j = api.Journal{}
			same(t, "the answer", said(o.Answers[2]), "down")
			same(t, "the state", o.State, api.State{})
		} else {
			same(t, "the answer", said(o.Answers[2]), "1")
		}
		if o.Up != (fuel >= 5) {
			t.Errorf("with the fuel %d: up %v", fuel, o.Up)
		}
		h.same(o)
	}
}

// TestDownDoesNothing: P8.2: all acts but a Recover are answered with ErrDown then, those of no kind, too, whatever else is wrong with them.
func TestDownDoesNothing(t *testing.T) {
	dies := []api.Act{act("bucket a"), act("put a k x"), act("arm 1"), act("tick 1")}
	want, _ := Run(geo(), dies)
	for kind := -1; kind <= 30; kind++ {
		for _, a := range []api.Act{
			{Kind: kind},
			{Kind: kind, Name: "a", Key: "k", N: 1, M: 1},
			{Kind: kind, Name: "no name", Body: text(700, 'a'), N: -1, M: -1, L: -1},
		} {
			if kind == api.Recover {
				continue
			}
			o, e := Run(geo(), append(dies, a))
			if e != api.OK || o.Up || show(o.Answers[4]) != show(api.Answer{Code: api.ErrDown}) {
				t.Errorf("kind %d: %v, %+v", kind, e, o.Answers[4])
			}
			same(t, "the devices", o.Devices, want.Devices)
			same(t, "the state and the journal", show(o.State, o.Journal), show(api.State{}, api.Journal{}))
		}
	}
}

// TestNoKind: P8.2: acts of no kind that there is.
func TestNoKind(t *testing.T) {
	for _, kind := range []int{0, -1, 24, 99, huge, least} {
		o, e := Run(geo(), []api.Act{{Kind: kind, Name: "a", Key: "k", N: 1}})
		if e != api.OK || show(o.Answers[0]) != show(api.Answer{Code: api.ErrKind}) || !o.Up {
			t.Errorf("kind %d: %v, %+v", kind, e, o)
		}
	}
}

// TestRecord: P8.3: each act's records are one transaction.
func TestRecord(t *testing.T) {
	o := plays(t, geo(), `
		bucket a => ok
		mode a 2 => ok
		rule a y/ 3 -1 => ok
		tick 7 => ok
	`)
	h := newHand(t, geo())
	h.commit(bucketRecord("a"))
	h.commit(api.Record{Kind: api.SetMode, Name: "a", N: 2})
	rule := api.Rule{Prefix: "y/", Freeze: 3, Drop: -1}
	h.commit(api.Record{Kind: api.SetRule, Name: "a", Rule: rule})
	h.commit(api.Record{Kind: api.Pass, N: 7})
	h.same(o)
	same(t, "the state", o.State, api.State{Next: 1, Clock: 7, Buckets: []api.Bucket{{Name: "a", Mode: 2, Rule: rule}}})
}

// TestRecordRefused: P8.3: what is refused does nothing at all.
func TestRecordRefused(t *testing.T) {
	o := plays(t, geo(), `
		bucket a => ok
		bucket a => twice
		bucket - => size
		mode b 1 => none
		mode a 3 => range
		tick -1 => range
		begin b k => form
		abort 1 => none
	`)
	h := newHand(t, geo())
	h.commit(bucketRecord("a"))
	h.same(o)
}

// TestRingFull: P8.3: a snapshot of the state ahead of the records, then the records.
func TestRingFull(t *testing.T) {
	g := geo()
	g.Ring = 4
	acts := `
		bucket a => ok
		tick 1 => ok
		tick 2 => ok
		tick 3 => ok
	`
	h := newHand(t, g)
	s := api.State{Next: 1, Buckets: []api.Bucket{{Name: "a", Rule: api.Rule{Freeze: -1, Drop: -1}}}}
	h.commit(bucketRecord("a"))
	for n := 1; n <= 3; n++ {
		h.commit(api.Record{Kind: api.Pass, N: n})
		s.Clock += n
	}
	h.same(plays(t, g, acts))
	h.save(s)
	h.commit(api.Record{Kind: api.Pass, N: 4})
	o := plays(t, g, acts+"tick 4 => ok")
	h.same(o)
	if o.State.Clock != 10 || o.Journal.Used != 1 {
		t.Errorf("%+v, %+v", o.State, o.Journal)
	}
	// What is refused ahead of the ring needs none.
	h.same(plays(t, g, acts+"tick 4 => ok\ntick -1 => range"))
}

// TestSnapshotTooGreat: P8.3: then that is refused, and nothing is done.
func TestSnapshotTooGreat(t *testing.T) {
	g := geo()
	g.Ring, g.Area = 4, 2
	acts := `
		bucket aaaaaaaa => ok
		bucket bbbbbbbb => ok
		bucket cccccccc => ok
		bucket dddddddd => ok
		rule aaaaaaaa abcdefghijklmnop 1 1 => ok
		rule bbbbbbbb abcdefghijklmnop 1 1 => ok
		tick 3 => ok
		rule cccccccc abcdefghijklmnop 1 1 => ok
	`
	ahead := plays(t, g, acts)
	o := plays(t, g, acts+`
		tick 4 => full
		checkpoint => full
		rule bbbbbbbb - 1 1 => full
		tick -1 => range
		list aaaaaaaa - - - 1 => ok
	`)
	same(t, "all", show(o.State, o.Devices, o.Journal), show(ahead.State, ahead.Devices, ahead.Journal))
	if o.Journal.Used != 4 || o.Journal.Gen != 2 || o.State.Clock != 3 || !o.Up {
		t.Errorf("%+v, %+v", o.Journal, o.State)
	}
}

// TestTransactionTooGreat: P8.3: no ring is great enough: the snapshot is saved, the tape has its pieces, and the state is as it was.
func TestTransactionTooGreat(t *testing.T) {
	g := roomy()
	g.Ring = 4
	acts := "bucket a => ok\nmode a 1 => ok\nrule a - 0 -1 => ok\n"
	h := newHand(t, g)
	var ids []int
	acts += fill(1, api.MaxLive)
	for i := range api.MaxLive {
		ids = append(ids, i+1)
	}
	ahead := plays(t, g, acts)
	o := plays(t, g, acts+"pack => full")
	h.d, h.j = ahead.Devices, ahead.Journal
	b, _, e := hot.Pack(0, ids, make([][]byte, len(ids)))
	h.good(e)
	h.tape(0, b)
	h.save(ahead.State)
	h.same(o)
	same(t, "the state", o.State, ahead.State)
	if o.Journal.Used != 0 || len(b) != 6*api.MaxLive {
		t.Errorf("%+v, %d bytes", o.Journal, len(b))
	}
}

// TestStore: P8.4: bytes stand in the first sectors that are free, and are written ahead of the records.
func TestStore(t *testing.T) {
	o := plays(t, geo(), `
		bucket a => ok
		put a k 130*c => 1
		put a x 64*d => 2
		put a k 65*e => 3
		put a y 129*f => 4
		get a k => 3 hot@0 =65*e
		get a x => 2 hot@0 =64*d
		get a y => 4 hot@0 =129*f
	`)
	v := func(id int, key string, size int, sectors ...int) api.Version {
		v := hotOne(id, size, sectors...)
		v.Key = key
		return v
	}
	l := []api.Version{v(1, "k", 130, 0, 1, 2), v(2, "x", 64, 3), v(3, "k", 65, 4, 5), v(4, "y", 129, 0, 1, 2)}
	h := newHand(t, geo())
	h.commit(bucketRecord("a"))
	for i, b := range []string{text(130, 'c'), text(64, 'd'), text(65, 'e'), text(129, 'f')} {
		h.write(b, l[i].Sectors...)
		h.commit(versionRecord(l[i]))
	}
	h.same(o)
	same(t, "the versions", o.State.Versions, l[1:])
}

// TestStoreFull: P8.4: so many sectors as are needed, or none; those of what gives way are not free yet.
func TestStoreFull(t *testing.T) {
	o := plays(t, geo(), `
		bucket a => ok
		put a x 64*a => 1
		put a k 512*b => 2
		put a y - => 3
		put a y a => full
		put a k a => full
		put a k - => 4
		put a y 513*a => full
		put a y 512*a => 5
	`)
	same(t, "the versions", o.State.Versions[1:], []api.Version{hotOne(4, 0), {Id: 5, Bucket: "a", Key: "y", Null: true, Size: 512, Tier: api.Hot, Sectors: []int{1, 2, 3, 4, 5, 6, 7, 8}}})
}

// TestStoreRefused: P8.4: for records that are refused nothing is written; room on disk is asked for ahead of them.
func TestStoreRefused(t *testing.T) {
	acts := `
		bucket a => ok
		put a k 500*a => 1
		begin a k => 2
	`
	ahead := plays(t, geo(), acts)
	for _, line := range []string{
		"send 2 0 a => form", "send 2 6 a => form", "send 2 -1 64*c => form",
		"send 2 6 65*c => full", "send 2 0 600*c => full",
	} {
		o := plays(t, geo(), acts+line)
		same(t, line, show(o.State, o.Devices, o.Journal), show(ahead.State, ahead.Devices, ahead.Journal))
	}
	acts = "bucket a => ok\nmode a 1 => ok\n" + fill(1, api.MaxLive)
	ahead = plays(t, roomy(), acts)
	o := plays(t, roomy(), acts+"put a k 65*c => full\nput a x - => full\ndelete a k => full")
	same(t, "with the most versions", show(o.State, o.Devices, o.Journal), show(ahead.State, ahead.Devices, ahead.Journal))
	// One that takes the place of another has room.
	plays(t, roomy(), "bucket b => ok\nput b y - => 1\nbucket a => ok\nmode a 1 => ok\n"+fill(2, api.MaxLive)+"put b y 65*c => 41\nput b x - => full")
}

// TestSpare: P8.4: as many sectors as are needed, the first ones; behind them nothing is shared.
func TestSpare(t *testing.T) {
	h := newHouse(t, geo())
	h.answer(act("put a x 64*a"))
	h.answer(act("put a y 64*a"))
	h.answer(act("delete a x"))
	for _, c := range []struct {
		bytes int
		want  []int
		e     api.Errno
	}{
		{0, nil, api.OK}, {1, []int{0}, api.OK}, {65, []int{0, 2}, api.OK},
		{512, []int{0, 2, 3, 4, 5, 6, 7, 8}, api.OK}, {513, nil, api.ErrFull},
	} {
		l, e := h.spare(c.bytes)
		same(t, show(c.bytes), show(l, e), show(c.want, c.e))
		if cap(l) != len(l) {
			t.Errorf("for %d bytes: room for %d behind %d", c.bytes, cap(l), len(l))
		}
	}
}

// TestWhole: the example of README.md, and of the document's whole.
func TestWhole(t *testing.T) {
	o := plays(t, geo(), `
		bucket photos => ok
		put photos cat abc => 1
		archive photos cat => 1
		get photos cat => cold 1 cold@0
		restore photos cat 0 2 => 1
		serve => 1
		arm 1 => ok
		tick 1 => down
		recover - 0 => 5
		get photos cat => 1 warm@2 =abc
		tick 2 => ok
		get photos cat => cold 1 warm@2
		sweep => 1
		get photos cat => cold 1 cold@0
	`)
	if got := show(o.Devices.Volumes[0].Data); got != "[[0 0 0 1 0 3 97 98 99]]" {
		t.Errorf("on tape: %s", got)
	}
}
