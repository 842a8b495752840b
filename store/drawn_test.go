package store

import (
	"reflect"
	"slices"
	"testing"

	"icehouse/api"
	"icehouse/hot"
	"icehouse/state"
)

// die: numbers that look drawn, the same each time.
type die uint64

func (d *die) n(most int) int {
	*d = *d*6364136223846793005 + 1442695040888963407
	return int(uint64(*d>>33) % uint64(most))
}

// pick one of these.
func pick[T any](d *die, l ...T) T { return l[d.n(len(l))] }

// act that looks drawn, of a store with the buckets a and b; no Arm, no Recover.
func (d *die) act() api.Act {
	a := api.Act{Name: pick(d, "a", "b"), Key: pick(d, "x", "y/1", "y/2")}
	a.Kind = pick(d, api.Put, api.Put, api.Put, api.Put, api.Get, api.Delete, api.Erase, api.List, api.Versions, api.Begin,
		api.Send, api.Send, api.Send, api.Complete, api.Complete, api.Abort, api.Archive, api.Archive, api.Archive, api.Restore, api.Restore, api.Tick, api.Tick,
		api.Pack, api.Pack, api.Serve, api.Serve, api.Sweep, api.Sweep, api.Compact, api.Compact, api.Checkpoint, api.PutRule, api.PutMode)
	switch a.Kind {
	case api.Put:
		a.Body = text(d.n(150), 'a'+byte(d.n(26)))
	case api.Get, api.Erase, api.Archive:
		a.N = pick(d, 0, 0, d.n(30))
	case api.List, api.Versions:
		a.Key, a.N = "", 9
	case api.Send:
		a.N, a.M, a.Body = d.n(30), 1+d.n(3), text(d.n(90), 'a'+byte(d.n(26)))
	case api.Complete, api.Abort:
		a.N = d.n(30)
	case api.Restore:
		a.M, a.L = 1+d.n(3), d.n(3)
	case api.Tick:
		a.N = d.n(6)
	case api.PutRule:
		a.Rule = api.Rule{Prefix: pick(d, "", "y/"), Freeze: pick(d, -1, 1, 2, 3), Drop: pick(d, -1, 5, 9)}
	case api.PutMode:
		a.N = 1 + d.n(2)
	}
	return a
}

// aim an act at an upload or a version that there is, as often as not.
func (d *die) aim(a api.Act, s api.State) api.Act {
	if d.n(4) == 0 {
		return a
	}
	if a.Kind >= api.Send && a.Kind <= api.Abort {
		if len(s.Uploads) == 0 {
			return api.Act{Kind: api.Begin, Name: a.Name, Key: a.Key}
		}
		a.N = s.Uploads[d.n(len(s.Uploads))].Id
	}
	tier := map[int]int{api.Archive: api.Hot, api.Restore: api.Cold}[a.Kind]
	for _, v := range s.Versions {
		if tier != 0 && v.Tier == tier && d.n(3) > 0 {
			a.Name, a.Key, a.N = v.Bucket, v.Key, v.Id
		}
	}
	return a
}

// part of an upload.
type part struct{ upload, n int }

// model: what has been put, as it should be read, by versions and by parts.
type model struct {
	bodies map[int]string
	parts  map[part]string
}

// saw: an act that is done, and the state ahead of it.
func (m model) saw(a api.Act, ahead api.State) {
	switch a.Kind {
	case api.Put:
		m.bodies[ahead.Next] = a.Body
	case api.Send:
		m.parts[part{a.N, a.M}] = a.Body
	case api.Complete:
		s := ""
		for _, u := range ahead.Uploads {
			for _, p := range u.Parts {
				if u.Id == a.N {
					s += m.parts[part{u.Id, p.N}]
				}
			}
		}
		m.bodies[ahead.Next] = s
	case api.Begin:
		for n := range api.MaxParts + 1 {
			delete(m.parts, part{ahead.Next, n})
		}
	}
}

// check that a house that is up has all that was put, on disk and on tape, and that nothing of it could be lost.
func (m model) check(t *testing.T, h house) {
	t.Helper()
	if !h.up || state.Check(h.s) != api.OK {
		t.Fatalf("up: %v, %+v", h.up, h.s)
	}
	reads := func(what string, b []byte, e api.Errno, want string) {
		t.Helper()
		if e != api.OK || string(b) != want {
			t.Errorf("%s: %v, %q, want %q", what, e, b, want)
		}
	}
	for _, v := range h.s.Versions {
		if v.Tier == api.Hot || v.Tier == api.Warm {
			b, e := hot.Read(h.g, h.d, v.Sectors, v.Size)
			reads("on disk", b, e, m.bodies[v.Id])
		}
		if v.Tier == api.Cold || v.Tier == api.Warm {
			b, e := hot.Fetch(h.g, h.d, v.Volume, api.Piece{Id: v.Id, At: v.At, Size: v.Size})
			reads("on tape", b, e, m.bodies[v.Id])
		}
	}
	for _, u := range h.s.Uploads {
		for _, p := range u.Parts {
			b, e := hot.Read(h.g, h.d, p.Sectors, p.Size)
			reads("a part", b, e, m.parts[part{u.Id, p.N}])
		}
	}
	if len(h.d.Cache) > 0 {
		t.Errorf("%d writes are not flushed", len(h.d.Cache))
	}
	for n, v := range h.d.Volumes {
		if v.Synced != len(v.Data) || v.Gone != slices.Contains(h.s.Gone, n) {
			t.Errorf("volume %d: %d of %d are safe, gone: %v, given up: %v", n, v.Synced, len(v.Data), v.Gone, h.s.Gone)
		}
	}
}

// geometries on which the drawn ones play: the ring, the disk and the tape are full, each on another one.
func geometries() []api.Geometry {
	return []api.Geometry{
		geo(),
		{Ring: api.MinRing, Area: 40, Hot: 20, Volume: 300, Volumes: 8},
		{Ring: 9, Area: 80, Hot: 40, Volume: 900, Volumes: 4},
	}
}

// newHouse with two buckets.
func newHouse(t *testing.T, g api.Geometry) house {
	t.Helper()
	by := newHand(t, g)
	h := house{g: g, up: true, s: empty(), d: by.d, j: by.j}
	for _, line := range []string{"bucket a", "bucket b", "mode b 1", "rule a y/ 3 20", "rule b x 2 9"} {
		if got := h.answer(act(line)); said(got) != "ok" {
			t.Fatal(said(got))
		}
	}
	return h
}

// crashes: a house whose devices died, behind each of some crashes.
func crashes(t *testing.T, d *die, h house) []house {
	t.Helper()
	var l []house
	for _, keep := range [][]bool{nil, {true}, {false, true}, {true, true, true, true, true, true}, {d.n(2) == 0, d.n(2) == 0, d.n(2) == 0, d.n(2) == 0}} {
		out := h
		got := out.answer(api.Act{Kind: api.Recover, Keep: keep, M: pick(d, 0, d.n(200), huge)})
		if got.Code != api.OK || show(got) != show(api.Answer{N: got.N}) {
			t.Errorf("a recovery: %+v", got)
		}
		l = append(l, out)
	}
	return l
}

// deaths of a house in the midst of an act, whenever it may be, and what comes of it behind crashes; with fuel enough it is as without.
func deaths(t *testing.T, d *die, h, after house, a api.Act, answer api.Answer) []house {
	t.Helper()
	var l []house
	for fuel := 0; ; fuel++ {
		dies := h
		dies.answer(api.Act{Kind: api.Arm, N: fuel})
		got := dies.answer(a)
		if dies.up {
			same(t, show(a), show(got, dies.s, dies.j), show(answer, after.s, after.j))
			return l
		}
		same(t, show(a), show(got, dies.s, dies.j), show(api.Answer{Code: api.ErrDown}, api.State{}, api.Journal{}))
		l = append(l, crashes(t, d, dies)...)
	}
}

// whichSide of an act all of these are: how many are ahead of it, and how many behind it.
func whichSide(t *testing.T, l []house, h, after house) (aheads, behinds int) {
	t.Helper()
	for i := range l {
		switch show(l[i].s) {
		case show(after.s):
			behinds++
		case show(h.s):
			aheads++
		default:
			t.Errorf("neither ahead of it nor behind it: %+v", l[i].s)
		}
	}
	return aheads, behinds
}

// TestCrashAnywhere: P8.2, P8.16: behind a crash at whatever place the state is the one ahead of the act, or the one behind it, and all can be read. It goes on from there.
func TestCrashAnywhere(t *testing.T) {
	d := die(11)
	seen := map[int]int{}
	aheads, behinds := 0, 0
	for round := range 24 {
		h := newHouse(t, geometries()[round%3])
		m := model{map[int]string{}, map[part]string{}}
		for range 150 {
			a := d.aim(d.act(), h.s)
			was, after := h, h
			answer := after.answer(a)
			dead := deaths(t, &d, h, after, a, answer)
			n, k := whichSide(t, dead, h, after)
			aheads, behinds = aheads+n, behinds+k
			h = after
			if len(dead) > 0 && d.n(2) == 0 {
				h = dead[d.n(len(dead))]
			}
			if show(h.s) != show(was.s) {
				m.saw(a, was.s)
				seen[a.Kind]++
			}
			m.check(t, h)
			if t.Failed() {
				t.Fatalf("round %d, behind %+v", round, a)
			}
		}
	}
	for _, kind := range []int{api.Put, api.Delete, api.Erase, api.Begin, api.Send, api.Complete, api.Abort, api.Archive, api.Restore, api.Tick, api.Pack, api.Serve, api.Sweep, api.Compact, api.PutRule} {
		if seen[kind] < 10 {
			t.Errorf("kind %d is done %d times: the drawn ones say little", kind, seen[kind])
		}
	}
	if aheads < 1000 || behinds < 1000 {
		t.Errorf("%d ahead of an act, %d behind it: the drawn ones say little", aheads, behinds)
	}
}

// wild act: of any kind, with anything in it.
func (d *die) wild() api.Act {
	number := func() int { return pick(d, 0, 1, 2, 3, -1, 7, 50, api.MaxNumber, huge, least) }
	word := func() string {
		return pick(d, "", "a", "b", "/", "ü", "\x00", text(9, 'a'), text(17, 'b'), text(601, 'c'))
	}
	return api.Act{
		Kind: d.n(26) - 1, Name: word(), Key: word(), Body: word(), After: word(), N: number(), M: number(), L: number(),
		Rule: api.Rule{Prefix: word(), Freeze: number(), Drop: number()},
		Keep: []bool{d.n(2) == 0, d.n(2) == 0},
	}
}

// TestWild: every call ends and none panics; what is refused has only its Code, but for a cold version; the outcome may be.
func TestWild(t *testing.T) {
	d := die(12)
	done := 0
	for range 200 {
		acts := []api.Act{act("bucket a"), act("mode a 1"), act("put a k x"), act("archive a k"), act("begin a l")}
		for range 40 {
			acts = append(acts, pick(&d, d.wild(), d.wild(), d.act(), act("recover y 3")))
		}
		o, e := Run(geo(), acts)
		if e != api.OK || len(o.Answers) != len(acts) {
			t.Fatalf("%v, %d answers", e, len(o.Answers))
		}
		for i, a := range o.Answers {
			if a.Code != api.OK && a.Code != api.ErrCold && show(a) != show(api.Answer{Code: a.Code}) {
				t.Errorf("%+v: %+v", acts[i], a)
			}
			if a.Code == api.OK {
				done++
			}
		}
		if o.Up && state.Check(o.State) != api.OK || !o.Up && show(o.State) != show(api.State{}) {
			t.Errorf("up: %v, %+v", o.Up, o.State)
		}
	}
	if done < 2000 {
		t.Errorf("%d are done: the drawn ones say little", done)
	}
}

// TestLeftAlone: acts that are handed in are not changed, their spare room neither; no two lists of the answers share memory.
func TestLeftAlone(t *testing.T) {
	d := die(13)
	for range 40 {
		acts := []api.Act{act("bucket a"), act("bucket b"), act("mode b 1")}
		for range 40 {
			a := pick(&d, d.act(), d.act(), d.act(), d.act(), act("arm 9"), api.Act{Kind: api.Recover, Keep: []bool{true, false, true, true}[:2], M: 3})
			acts = append(acts, a)
		}
		acts = append(acts, act("recover - 0"), act("versions a - 50"), act("list b - / - 50"), api.Act{Kind: 99})[:len(acts)+3]
		all := func() string {
			s := show(acts[:len(acts)+1])
			for _, a := range acts {
				s += show(a.Keep[:cap(a.Keep)])
			}
			return s
		}
		before := all()
		first, e := Run(geo(), acts)
		second, f := Run(geo(), acts)
		if e != api.OK || f != api.OK || all() != before {
			t.Fatalf("%v, %v; what was handed in is changed: %v", e, f, all() != before)
		}
		same(t, "the second time", second, first)
		apart(t, reflect.ValueOf(acts), reflect.ValueOf(first), reflect.ValueOf(second))
	}
}

// apart: do no two lists in all of these share memory?
func apart(t *testing.T, l ...reflect.Value) {
	t.Helper()
	type block struct{ from, to uintptr }
	var blocks []block
	for _, x := range l {
		memory(x, func(from, to uintptr) { blocks = append(blocks, block{from, to}) })
	}
	slices.SortFunc(blocks, func(a, b block) int { return int(a.from) - int(b.from) })
	for i := 1; i < len(blocks); i++ {
		if blocks[i].from < blocks[i-1].to {
			t.Fatal("two lists share memory")
		}
	}
	if len(blocks) < 90 {
		t.Errorf("%d lists: that says little", len(blocks))
	}
}
