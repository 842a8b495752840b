package state

import (
	"slices"
	"strings"
	"testing"

	"icehouse/api"
)

// kinds that there are, by their numbers.
const kinds = 14

// good: for each kind a record that the rich state does not refuse, and what it makes of it.
func good() map[int]struct {
	r    api.Record
	want api.State
} {
	type one = struct {
		r    api.Record
		want api.State
	}
	hotOne := api.Version{Id: 20, Bucket: "b", Key: "x", Size: 70, Time: 99, Tier: api.Hot, Sectors: []int{60, 50}}
	part := api.Part{N: 3, Size: 70, Sectors: []int{60, 50}}
	return map[int]one{
		api.AddBucket: {api.Record{Name: "c"}, with(func(s *api.State) {
			s.Buckets = slices.Insert(s.Buckets, 2, api.Bucket{Name: "c", Mode: api.Plain, Rule: none()})
		})},
		api.SetMode: {api.Record{Name: "b", N: api.Suspended}, with(func(s *api.State) { s.Buckets[1].Mode = api.Suspended })},
		api.SetRule: {api.Record{Name: "d", Rule: api.Rule{Prefix: "z", Freeze: 1, Drop: -1}}, with(func(s *api.State) {
			s.Buckets[2].Rule = api.Rule{Prefix: "z", Freeze: 1, Drop: -1}
		})},
		api.AddVersion: {api.Record{Version: hotOne}, with(func(s *api.State) {
			s.Versions, s.Next = append(s.Versions, hotOne), 21
		})},
		api.DropOne: {api.Record{Id: 5}, with(func(s *api.State) {
			s.Versions, s.Queue = slices.Delete(s.Versions, 2, 3), slices.Delete(s.Queue, 1, 2)
		})},
		api.Freeze: {api.Record{Id: 2, Volume: 4, At: 33}, with(func(s *api.State) {
			v := &s.Versions[hot]
			v.Tier, v.Sectors, v.Volume, v.At = api.Cold, nil, 4, 33
		})},
		api.AddAsk: {api.Record{Ask: api.Ask{Version: 9, Days: 3, Class: 2}}, with(func(s *api.State) {
			s.Queue = []api.Ask{{Version: 5, Days: 1000, Class: 2}, {Version: 11, Days: 7}, {Version: 9, Days: 3, Class: 2}}
		})},
		api.Thaw: {api.Record{Id: 5, Sectors: []int{50}, N: 105}, with(func(s *api.State) {
			v := &s.Versions[cold]
			v.Tier, v.Sectors, v.Until = api.Warm, []int{50}, 105
			s.Queue = slices.Delete(s.Queue, 1, 2)
		})},
		api.Chill: {api.Record{Id: 6}, with(func(s *api.State) {
			v := &s.Versions[warm]
			v.Tier, v.Sectors, v.Until = api.Cold, nil, 0
		})},
		api.AddUpload: {api.Record{Id: 20, Name: "d", Key: "u"}, with(func(s *api.State) {
			s.Uploads, s.Next = append(s.Uploads, api.Upload{Id: 20, Bucket: "d", Key: "u"}), 21
		})},
		api.AddPart: {api.Record{Id: 4, Part: part}, with(func(s *api.State) {
			s.Uploads[0].Parts = slices.Insert(s.Uploads[0].Parts, 1, part)
		})},
		api.DropUpload: {api.Record{Id: 4}, with(func(s *api.State) { s.Uploads = s.Uploads[1:] })},
		api.Pass:       {api.Record{N: 5}, with(func(s *api.State) { s.Clock = 105 })},
		api.GiveUp:     {api.Record{Volume: 4}, with(func(s *api.State) { s.Gone = []int{2, 4, 5} })},
	}
}

// ahead: the state to which the good record of a kind is applied; it is the rich one, but for an ask that must not be there yet.
func ahead(kind int) api.State {
	s := rich()
	if kind == api.AddAsk {
		s.Queue = s.Queue[1:]
	}
	return s
}

// TestGood: P3.5 to P3.11, each kind by its good record; what a kind does not have is not looked at (P3.4).
func TestGood(t *testing.T) {
	for kind := 1; kind <= kinds; kind++ {
		c := good()[kind]
		c.r.Kind = kind
		applies(t, "kind "+text(kind), ahead(kind), c.r, c.want)
		applies(t, "kind "+text(kind)+" with more", ahead(kind), filled(c.r), c.want)
	}
}

// filled: a record that has something in each field that its kind does not have.
func filled(r api.Record) api.Record {
	has := map[int]string{
		api.AddBucket:  "Name",
		api.SetMode:    "Name N",
		api.SetRule:    "Name Rule",
		api.AddVersion: "Version",
		api.DropOne:    "Id",
		api.Freeze:     "Id Volume At",
		api.AddAsk:     "Ask",
		api.Thaw:       "Id Sectors N",
		api.Chill:      "Id",
		api.AddUpload:  "Id Name Key",
		api.AddPart:    "Id Part",
		api.DropUpload: "Id",
		api.Pass:       "N",
		api.GiveUp:     "Volume",
	}[r.Kind]
	fill := func(name string, set func()) {
		if !slices.Contains(strings.Fields(has), name) {
			set()
		}
	}
	fill("Id", func() { r.Id = 6 })
	fill("N", func() { r.N = -77 })
	fill("Name", func() { r.Name = "no name at all" })
	fill("Key", func() { r.Key = " " })
	fill("Rule", func() { r.Rule = api.Rule{Prefix: " ", Freeze: -9, Drop: huge} })
	fill("Version", func() { r.Version = api.Version{Id: -1, Size: huge, Sectors: []int{-1}} })
	fill("Ask", func() { r.Ask = api.Ask{Version: 5, Days: -1, Class: 9} })
	fill("Part", func() { r.Part = api.Part{N: 77, Size: -1, Sectors: []int{0}} })
	fill("Sectors", func() { r.Sectors = []int{0, 0, huge} })
	fill("Volume", func() { r.Volume = least })
	fill("At", func() { r.At = huge })
	return r
}

// TestRefusedFirst: P3.4, a state that may not be is told ahead of all, then a kind that there is not.
func TestRefusedFirst(t *testing.T) {
	for kind := 1; kind <= kinds; kind++ {
		c := good()[kind]
		c.r.Kind = kind
		s := ahead(kind)
		s.Clock = -1
		refuses(t, "a state that may not be, kind "+text(kind), s, c.r, api.ErrState)
	}
	for _, kind := range []int{0, -1, kinds + 1, 255, least, huge} {
		refuses(t, "kind "+text(kind), rich(), api.Record{Kind: kind}, api.ErrKind)
		refuses(t, "kind "+text(kind), rich(), filled(api.Record{Kind: kind}), api.ErrKind)
		refuses(t, "a state that may not be, kind "+text(kind), api.State{}, api.Record{Kind: kind}, api.ErrState)
	}
}

// TestRecordMemory: P3.4, the answer shares no memory with the state, with the record, or with itself; what was handed in stays, spare room and all.
func TestRecordMemory(t *testing.T) {
	for kind := 1; kind <= kinds; kind++ {
		s, r := roomy(ahead(kind)), roomy(good()[kind].r)
		r.Kind = kind
		state, record := whole(s), whole(r)
		one, e := Apply(s, r)
		two, _ := Apply(s, r)
		if e != api.OK {
			t.Errorf("kind %d: %v", kind, e)
		}
		apart(t, "kind "+text(kind), s, r, one, two)
		if whole(s) != state || whole(r) != record {
			t.Errorf("kind %d: what was handed in is changed", kind)
		}
		r.Ask.Version, r.Id = 77, 77
		if _, e := Apply(s, r); whole(s) != state {
			t.Errorf("kind %d: a state is changed by what is refused (%v)", kind, e)
		}
	}
}

// TestAddBucket: P3.5.
func TestAddBucket(t *testing.T) {
	add := func(name string) api.Record { return api.Record{Kind: api.AddBucket, Name: name} }
	for _, c := range []struct {
		name string
		at   int
	}{{"A", 0}, {"a0", 1}, {"b0", 2}, {"c2345678", 2}, {"e", 3}, {"~", 3}} {
		applies(t, c.name, rich(), add(c.name), with(func(s *api.State) {
			s.Buckets = slices.Insert(s.Buckets, c.at, api.Bucket{Name: c.name, Rule: none()})
		}))
	}
	applies(t, "the first one", api.State{Next: 1}, add("a"), api.State{Next: 1, Buckets: []api.Bucket{{Name: "a", Rule: none()}}})
	full := with(func(s *api.State) { s.Buckets = append(s.Buckets, api.Bucket{Name: "e"}) })
	refuses(t, "no name", rich(), add(""), api.ErrSize)
	refuses(t, "too long", rich(), add("c23456789"), api.ErrSize)
	refuses(t, "too long, and full", full, add("c23456789"), api.ErrSize)
	refuses(t, "a blank", rich(), add("c c"), api.ErrForm)
	refuses(t, "a blank, and full", full, add("c c"), api.ErrForm)
	for _, b := range full.Buckets {
		refuses(t, "twice", full, add(b.Name), api.ErrTwice)
	}
	refuses(t, "twice", rich(), add("b"), api.ErrTwice)
	refuses(t, "full", full, add("c"), api.ErrFull)
}

// TestSetMode: P3.6.
func TestSetMode(t *testing.T) {
	set := func(name string, n int) api.Record { return api.Record{Kind: api.SetMode, Name: name, N: n} }
	for i, name := range []string{"a", "b", "d"} {
		for mode := api.Plain; mode <= api.Suspended; mode++ {
			if mode == api.Plain && name != "a" {
				refuses(t, "plain again", rich(), set(name, mode), api.ErrState)
				continue
			}
			applies(t, name, rich(), set(name, mode), with(func(s *api.State) { s.Buckets[i].Mode = mode }))
		}
		for _, n := range []int{-1, 3, least, huge} {
			refuses(t, "no mode", rich(), set(name, n), api.ErrRange)
			refuses(t, "no bucket, no mode", rich(), set(name+"x", n), api.ErrNone)
		}
	}
	refuses(t, "no bucket", rich(), set("c", api.Enabled), api.ErrNone)
	refuses(t, "no name", rich(), set("", api.Plain), api.ErrNone)
}

// TestSetRule: P3.6.
func TestSetRule(t *testing.T) {
	set := func(name string, r api.Rule) api.Record { return api.Record{Kind: api.SetRule, Name: name, Rule: r} }
	long := strings.Repeat("a", api.MaxKey)
	for i, name := range []string{"a", "b", "d"} {
		for _, r := range []api.Rule{none(), {}, {Prefix: long, Freeze: api.MaxTime, Drop: api.MaxTime}} {
			applies(t, name, rich(), set(name, r), with(func(s *api.State) { s.Buckets[i].Rule = r }))
		}
	}
	refuses(t, "too long", rich(), set("a", api.Rule{Prefix: long + " ", Drop: -2}), api.ErrSize)
	refuses(t, "a blank", rich(), set("a", api.Rule{Prefix: " ", Drop: -2}), api.ErrForm)
	refuses(t, "Freeze", rich(), set("a", api.Rule{Freeze: -2}), api.ErrRange)
	refuses(t, "Drop", rich(), set("a", api.Rule{Drop: api.MaxTime + 1}), api.ErrRange)
	refuses(t, "no bucket", rich(), set("c", none()), api.ErrNone)
	refuses(t, "no bucket, and too long", rich(), set("c", api.Rule{Prefix: long + " "}), api.ErrNone)
}

// TestUploads: P3.10, AddUpload and DropUpload.
func TestUploads(t *testing.T) {
	add := func(id int, name, key string) api.Record {
		return api.Record{Kind: api.AddUpload, Id: id, Name: name, Key: key}
	}
	last := with(func(s *api.State) { s.Next = api.MaxNumber - 1 })
	applies(t, "the last number", last, add(api.MaxNumber-1, "a", "x"), with(func(s *api.State) {
		s.Next = api.MaxNumber
		s.Uploads = append(s.Uploads, api.Upload{Id: api.MaxNumber - 1, Bucket: "a", Key: "x"})
	}))
	none := with(func(s *api.State) { s.Next = api.MaxNumber })
	full := with(func(s *api.State) {
		s.Uploads = append(s.Uploads, api.Upload{Id: 14, Bucket: "a", Key: "x"}, api.Upload{Id: 15, Bucket: "a", Key: "x"})
	})
	refuses(t, "no number", none, add(api.MaxNumber, "a", "x"), api.ErrRange)
	for _, id := range []int{19, 21, 0, -20, least, huge} {
		refuses(t, "another number", rich(), add(id, "a", "x"), api.ErrRange)
		refuses(t, "another number, and full", full, add(id, "c", ""), api.ErrRange)
	}
	refuses(t, "full", full, add(20, "a", "x"), api.ErrFull)
	refuses(t, "full, and no bucket", full, add(20, "c", "x"), api.ErrFull)
	refuses(t, "no bucket", rich(), add(20, "c", "x"), api.ErrForm)
	refuses(t, "no key", rich(), add(20, "a", ""), api.ErrForm)
	refuses(t, "too long a key", rich(), add(20, "a", strings.Repeat("k", api.MaxKey+1)), api.ErrForm)
	refuses(t, "a key with a blank", rich(), add(20, "a", "k k"), api.ErrForm)

	drop := func(id int) api.Record { return api.Record{Kind: api.DropUpload, Id: id} }
	for i, u := range full.Uploads {
		want := Copy(full)
		want.Uploads = slices.Delete(want.Uploads, i, i+1)
		applies(t, "dropped", full, drop(u.Id), want)
	}
	for _, id := range []int{0, 2, 20, -4, least, huge} {
		refuses(t, "dropped, no such upload", rich(), drop(id), api.ErrNone)
	}
}

// TestAddPart: P3.10.
func TestAddPart(t *testing.T) {
	add := func(id int, p api.Part) api.Record { return api.Record{Kind: api.AddPart, Id: id, Part: p} }
	for n := 1; n <= api.MaxParts; n++ {
		p := api.Part{N: n, Size: 65, Sectors: []int{33, 22}}
		applies(t, "a part", rich(), add(4, p), with(func(s *api.State) {
			l := slices.DeleteFunc(s.Uploads[0].Parts, func(q api.Part) bool { return q.N == n })
			l = append(l, p)
			slices.SortFunc(l, func(a, b api.Part) int { return a.N - b.N })
			s.Uploads[0].Parts = l
		}))
		applies(t, "the first part", rich(), add(12, p), with(func(s *api.State) { s.Uploads[1].Parts = []api.Part{p} }))
	}
	// The sectors of the one whose place it takes are free then.
	again := api.Part{N: 2, Size: 128, Sectors: []int{10, 11}}
	applies(t, "in the same sectors", rich(), add(4, again), with(func(s *api.State) { s.Uploads[0].Parts[0] = again }))
	for _, id := range []int{0, 2, 3, 20, -4, least, huge} {
		refuses(t, "no such upload", rich(), add(id, api.Part{N: 1}), api.ErrNone)
		refuses(t, "no such upload, nor part", rich(), add(id, api.Part{N: -1}), api.ErrNone)
	}
	for _, p := range []api.Part{
		{N: 0}, {N: -1}, {N: api.MaxParts + 1}, {N: least}, {N: huge},
		{N: 1, Size: -1}, {N: 1, Size: api.MaxBody + 1, Sectors: numbers(40)[30:]}, {N: 1, Size: huge}, {N: 1, Size: least},
		{N: 1, Size: 1}, {N: 1, Sectors: []int{30}}, {N: 1, Size: 65, Sectors: []int{30, 30}},
		{N: 1, Size: 1, Sectors: []int{-1}}, {N: 1, Size: 1, Sectors: []int{api.MaxHot}},
		{N: 1, Size: 1, Sectors: []int{7}}, {N: 1, Size: 1, Sectors: []int{10}}, {N: 5, Size: 1, Sectors: []int{11}},
	} {
		refuses(t, "a part that may not be: "+text(p), rich(), add(4, p), api.ErrForm)
	}
}

// TestPass: P3.11.
func TestPass(t *testing.T) {
	pass := func(n int) api.Record { return api.Record{Kind: api.Pass, N: n} }
	for _, n := range []int{0, 1, 77, api.MaxTime - 100} {
		applies(t, "pass "+text(n), rich(), pass(n), with(func(s *api.State) { s.Clock += n }))
	}
	for _, n := range []int{-1, least, api.MaxTime - 99, api.MaxTime, huge} {
		refuses(t, "pass "+text(n), rich(), pass(n), api.ErrRange)
	}
	end := with(func(s *api.State) { s.Clock = api.MaxTime })
	applies(t, "nothing passes at the end", end, pass(0), end)
	refuses(t, "something passes at the end", end, pass(1), api.ErrRange)
}

// TestGiveUp: P3.11.
func TestGiveUp(t *testing.T) {
	give := func(volume int) api.Record { return api.Record{Kind: api.GiveUp, Volume: volume} }
	for _, c := range []struct {
		volume int
		gone   []int
	}{{4, []int{2, 4, 5}}, {6, []int{2, 5, 6}}} {
		applies(t, "given up "+text(c.volume), rich(), give(c.volume), with(func(s *api.State) { s.Gone = c.gone }))
	}
	disk := with(onlyOnDisk)
	applies(t, "the first one", disk, give(0), with(func(s *api.State) { onlyOnDisk(s); s.Gone = []int{0, 2, 5} }))
	applies(t, "the last one", disk, give(7), with(func(s *api.State) { onlyOnDisk(s); s.Gone = []int{2, 5, 7} }))
	for _, volume := range []int{2, 5} {
		refuses(t, "twice", rich(), give(volume), api.ErrTwice)
	}
	for _, volume := range []int{-1, api.MaxVolumes, least, huge} {
		refuses(t, "no such volume", rich(), give(volume), api.ErrForm)
	}
	for _, volume := range []int{0, 1, 3, 7} {
		refuses(t, "a version stands there", rich(), give(volume), api.ErrForm)
	}
}
