package state

import (
	"slices"
	"strings"
	"testing"

	"icehouse/api"
)

// add a version: the record.
func add(v api.Version) api.Record { return api.Record{Kind: api.AddVersion, Version: v} }

// TestAddVersion: P3.7, versions of all tiers, markers, and what may not be.
func TestAddVersion(t *testing.T) {
	for _, v := range []api.Version{
		{Tier: api.Hot},
		{Tier: api.Hot, Size: 65, Sectors: []int{33, 22}, Time: 100},
		{Tier: api.Cold, Size: 65, Volume: 4, At: 5},
		{Tier: api.Warm, Size: 65, Sectors: []int{33, 22}, Volume: 4, At: 5, Until: 7},
		{Marker: true, Time: 3},
	} {
		for _, bucket := range []string{"a", "b", "d"} {
			v.Id, v.Bucket, v.Key = 20, bucket, "x"
			applies(t, "one more", rich(), add(v), with(func(s *api.State) {
				s.Versions, s.Next = append(s.Versions, v), 21
			}))
		}
	}
	fine := api.Version{Id: 20, Bucket: "a", Key: "x", Tier: api.Hot, Size: 65, Sectors: []int{33, 22}}
	for _, c := range []struct {
		what   string
		change func(v *api.Version)
		want   api.Errno
	}{
		{"the last Id", func(v *api.Version) { v.Id = 19 }, api.ErrRange},
		{"one Id more", func(v *api.Version) { v.Id = 21 }, api.ErrRange},
		{"no Id", func(v *api.Version) { v.Id = 0 }, api.ErrRange},
		{"a far Id", func(v *api.Version) { v.Id = huge }, api.ErrRange},
		{"another Id, and no bucket", func(v *api.Version) { v.Id, v.Bucket = 2, "c" }, api.ErrRange},
		{"no bucket", func(v *api.Version) { v.Bucket = "c" }, api.ErrForm},
		{"no key", func(v *api.Version) { v.Key = "" }, api.ErrForm},
		{"too long a key", func(v *api.Version) { v.Key = strings.Repeat("k", api.MaxKey+1) }, api.ErrForm},
		{"a time that is not yet", func(v *api.Version) { v.Time = 101 }, api.ErrForm},
		{"a time below all", func(v *api.Version) { v.Time = -1 }, api.ErrForm},
		{"no tier", func(v *api.Version) { v.Tier = 0 }, api.ErrForm},
		{"too few sectors", func(v *api.Version) { v.Sectors = []int{33} }, api.ErrForm},
		{"a sector that is taken", func(v *api.Version) { v.Sectors = []int{33, 7} }, api.ErrForm},
		{"a sector of a part", func(v *api.Version) { v.Sectors = []int{33, 12} }, api.ErrForm},
		{"a sector that there is not", func(v *api.Version) { v.Sectors = []int{33, 200} }, api.ErrForm},
		{"a marker with a size", func(v *api.Version) { v.Marker = true }, api.ErrForm},
		{"a volume that is gone", func(v *api.Version) { v.Tier, v.Sectors, v.Volume = api.Cold, nil, 2 }, api.ErrForm},
	} {
		v := fine
		c.change(&v)
		refuses(t, c.what, rich(), add(v), c.want)
	}
}

// TestAddNull: P3.7, the one without a number whose place it takes is dropped, and nothing is asked of it.
func TestAddNull(t *testing.T) {
	hotOne := api.Version{Id: 20, Bucket: "a", Key: "x", Null: true, Tier: api.Hot, Size: 128, Sectors: []int{3, 7}}
	applies(t, "in the sectors of the one ahead", rich(), add(hotOne), with(func(s *api.State) {
		s.Versions, s.Next = append(s.Versions[1:], hotOne), 21
	}))
	asked := api.Version{Id: 20, Bucket: "d", Key: "y/1", Null: true, Marker: true}
	applies(t, "of one that is asked for", rich(), add(asked), with(func(s *api.State) {
		s.Versions, s.Next = append(slices.Delete(s.Versions, 6, 7), asked), 21
		s.Queue = s.Queue[:2]
	}))
	overMarker := api.Version{Id: 20, Bucket: "d", Key: "x", Null: true, Tier: api.Hot}
	applies(t, "of a marker; one with a number stays, and what is asked of it", rich(), add(overMarker), with(func(s *api.State) {
		s.Versions, s.Next = append(slices.Delete(s.Versions, 4, 5), overMarker), 21
	}))
	for _, c := range []struct{ what, bucket, key string }{
		{"of a key whose versions all have numbers", "b", "x"},
		{"of another key", "a", "y/1"},
		{"of a key that begins so", "a", "xx"},
	} {
		v := api.Version{Id: 20, Bucket: c.bucket, Key: c.key, Null: true, Tier: api.Hot}
		applies(t, c.what, rich(), add(v), with(func(s *api.State) { s.Versions, s.Next = append(s.Versions, v), 21 }))
	}
	numbered := api.Version{Id: 20, Bucket: "a", Key: "x", Tier: api.Hot}
	applies(t, "one with a number drops none", rich(), add(numbered), with(func(s *api.State) {
		s.Versions, s.Next = append(s.Versions, numbered), 21
	}))
	refuses(t, "one with a number, in sectors that are taken", rich(), add(api.Version{Id: 20, Bucket: "a", Key: "x", Tier: api.Hot, Size: 128, Sectors: []int{3, 7}}), api.ErrForm)
	refuses(t, "one without, of a bucket that is not there", rich(), add(api.Version{Id: 20, Bucket: "c", Key: "x", Null: true, Tier: api.Hot}), api.ErrForm)
}

// TestAddVersionFull: P3.7, at the most versions and at the last number.
func TestAddVersionFull(t *testing.T) {
	v := api.Version{Bucket: "a", Key: "k0", Marker: true}
	for many := api.MaxLive - 2; many < api.MaxLive; many++ {
		s := crowded(many)
		v.Id = s.Next
		want := crowded(many)
		want.Versions, want.Next = append(want.Versions, v), v.Id+1
		applies(t, "room for one", s, add(v), want)
	}
	full := crowded(api.MaxLive)
	v.Id = full.Next
	refuses(t, "full", full, add(v), api.ErrFull)
	bad := v
	bad.Bucket = "c"
	refuses(t, "full, and no bucket", full, add(bad), api.ErrFull)
	bad.Id++
	refuses(t, "full, and another Id", full, add(bad), api.ErrRange)
	v.Null = true
	refuses(t, "full, and the other one has a number", full, add(v), api.ErrFull)
	full.Versions[0].Null = true
	want := Copy(full)
	want.Versions, want.Next = append(want.Versions[1:], v), v.Id+1
	applies(t, "full, but one goes", full, add(v), want)
	other := v
	other.Key = "other"
	refuses(t, "full, and none goes", full, add(other), api.ErrFull)

	last := with(func(s *api.State) { s.Next = api.MaxNumber - 1 })
	v = api.Version{Id: api.MaxNumber - 1, Bucket: "a", Key: "y", Tier: api.Hot}
	applies(t, "the last number", last, add(v), with(func(s *api.State) {
		s.Next, s.Versions = api.MaxNumber, append(s.Versions, v)
	}))
	v.Id = api.MaxNumber
	refuses(t, "no number", with(func(s *api.State) { s.Next = api.MaxNumber }), add(v), api.ErrRange)
}

// TestDropOne: P3.7, of each version; what is asked of it goes, and of it alone.
func TestDropOne(t *testing.T) {
	drop := func(id int) api.Record { return api.Record{Kind: api.DropOne, Id: id} }
	for i, v := range rich().Versions {
		applies(t, "drop "+text(v.Id), rich(), drop(v.Id), with(func(s *api.State) {
			s.Versions = slices.Delete(s.Versions, i, i+1)
			s.Queue = slices.DeleteFunc(s.Queue, func(a api.Ask) bool { return a.Version == v.Id })
		}))
	}
	for _, id := range []int{0, 1, 4, 20, -2, least, huge} {
		refuses(t, "drop "+text(id), rich(), drop(id), api.ErrNone)
	}
}

// TestFreeze: P3.8, of each tier; one that is asked for stays so.
func TestFreeze(t *testing.T) {
	freeze := func(id, volume, at int) api.Record {
		return api.Record{Kind: api.Freeze, Id: id, Volume: volume, At: at}
	}
	for i, v := range rich().Versions {
		r := freeze(v.Id, 6, api.MaxVolume)
		if v.Marker {
			refuses(t, "a marker", rich(), r, api.ErrKind)
			refuses(t, "a marker, and no such volume", rich(), freeze(v.Id, -1, -1), api.ErrKind)
			continue
		}
		applies(t, "freeze "+text(v), rich(), r, with(func(s *api.State) {
			w := &s.Versions[i]
			w.Volume, w.At = 6, api.MaxVolume
			if w.Tier == api.Hot {
				w.Tier, w.Sectors = api.Cold, nil
			}
		}))
		for _, volume := range []int{2, 5, -1, api.MaxVolumes, least, huge} {
			refuses(t, "a volume that is not there", rich(), freeze(v.Id, volume, 0), api.ErrForm)
		}
		for _, at := range []int{-1, api.MaxVolume + 1, least, huge} {
			refuses(t, "a place that is not there", rich(), freeze(v.Id, 0, at), api.ErrForm)
		}
	}
	for _, id := range []int{0, 4, 20, -2, least, huge} {
		refuses(t, "no such version", rich(), freeze(id, -1, 0), api.ErrNone)
	}
}

// TestThaw: P3.8, of each version; what is asked of it goes.
func TestThaw(t *testing.T) {
	thaw := func(id, until int, sectors ...int) api.Record {
		return api.Record{Kind: api.Thaw, Id: id, Sectors: sectors, N: until}
	}
	for i, v := range rich().Versions {
		r := thaw(v.Id, 107, numbers(100)[50:50+Sectors(v.Size)]...)
		switch {
		case v.Marker:
			refuses(t, "a marker", rich(), r, api.ErrKind)
		case v.Tier != api.Cold:
			refuses(t, "one that is not cold", rich(), r, api.ErrWarm)
			refuses(t, "one that is not cold, and too late", rich(), thaw(v.Id, -1, 0), api.ErrWarm)
		default:
			applies(t, "thaw "+text(v), rich(), r, with(func(s *api.State) {
				w := &s.Versions[i]
				w.Tier, w.Sectors, w.Until = api.Warm, r.Sectors, 107
				s.Queue = slices.DeleteFunc(s.Queue, func(a api.Ask) bool { return a.Version == v.Id })
			}))
		}
	}
	unasked := with(func(s *api.State) { s.Queue = nil })
	for _, until := range []int{0, api.MaxTime + api.MaxDays} {
		applies(t, "one that is not asked for", unasked, thaw(5, until, 50), with(func(s *api.State) {
			s.Queue = nil
			w := &s.Versions[cold]
			w.Tier, w.Sectors, w.Until = api.Warm, []int{50}, until
		}))
	}
	for _, until := range []int{-1, api.MaxTime + api.MaxDays + 1, least, huge} {
		refuses(t, "until "+text(until), rich(), thaw(5, until, 50), api.ErrForm)
	}
	for _, l := range [][]int{nil, {50, 51}, {-1}, {api.MaxHot}, {7}, {199}, {12}} {
		refuses(t, "sectors "+text(l), rich(), thaw(5, 107, l...), api.ErrForm)
	}
	for _, id := range []int{0, 4, 20, -2, least, huge} {
		refuses(t, "no such version", rich(), thaw(id, 107), api.ErrNone)
	}
}

// TestChill: P3.8, of each version.
func TestChill(t *testing.T) {
	chill := func(id int) api.Record { return api.Record{Kind: api.Chill, Id: id} }
	for i, v := range rich().Versions {
		switch {
		case v.Marker:
			refuses(t, "a marker", rich(), chill(v.Id), api.ErrKind)
		case v.Tier != api.Warm:
			refuses(t, "one that is not warm", rich(), chill(v.Id), api.ErrCold)
		default:
			applies(t, "chill", rich(), chill(v.Id), with(func(s *api.State) {
				w := &s.Versions[i]
				w.Tier, w.Sectors, w.Until = api.Cold, nil, 0
			}))
		}
	}
	for _, id := range []int{0, 4, 20, -2, least, huge} {
		refuses(t, "no such version", rich(), chill(id), api.ErrNone)
	}
}

// TestAddAsk: P3.9, and what is told first.
func TestAddAsk(t *testing.T) {
	ask := func(id, days, class int) api.Record {
		return api.Record{Kind: api.AddAsk, Ask: api.Ask{Version: id, Days: days, Class: class}}
	}
	for days := range 3 {
		for class := range 3 {
			a := api.Ask{Version: 3, Days: []int{1, 7, api.MaxDays}[days], Class: class}
			want := frozen(5, 2)
			want.Queue = append(want.Queue, a)
			applies(t, "ask "+text(a), frozen(5, 2), ask(3, a.Days, class), want)
		}
	}
	for _, id := range []int{0, 4, 20, -2, least, huge} {
		refuses(t, "no such version", rich(), ask(id, 0, 3), api.ErrNone)
	}
	refuses(t, "a marker", rich(), ask(8, 0, 3), api.ErrKind)
	refuses(t, "a hot one", rich(), ask(2, 0, 3), api.ErrWarm)
	refuses(t, "a warm one", rich(), ask(6, 0, 3), api.ErrWarm)
	for _, id := range []int{5, 9, 11} {
		refuses(t, "asked for", rich(), ask(id, 1, 0), api.ErrWait)
		refuses(t, "asked for, and the range", rich(), ask(id, 0, 3), api.ErrWait)
	}
	full := frozen(20, api.MaxQueue)
	refuses(t, "asked for, and full", full, ask(1, 0, 0), api.ErrWait)
	for _, s := range []api.State{full, frozen(20, api.MaxQueue-1)} {
		for _, days := range []int{0, -1, api.MaxDays + 1, least, huge} {
			refuses(t, "days", s, ask(11, days, 0), api.ErrRange)
		}
		for _, class := range []int{-1, 3, least, huge} {
			refuses(t, "class", s, ask(11, 1, class), api.ErrRange)
		}
	}
	refuses(t, "full", full, ask(11, 1, 0), api.ErrFull)
	want := frozen(20, api.MaxQueue-1)
	want.Queue = append(want.Queue, api.Ask{Version: 11, Days: 1})
	applies(t, "the last one that has room", frozen(20, api.MaxQueue-1), ask(11, 1, 0), want)
}
