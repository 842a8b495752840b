package state

import (
	"strings"
	"testing"

	"icehouse/api"
)

// changed: a state that is changed, and whether it may be then.
type changed struct {
	what   string
	change func(s *api.State)
	may    bool
}

// checks: each of these changes of the rich state, by itself.
func checks(t *testing.T, l []changed) {
	t.Helper()
	for _, c := range l {
		s := with(c.change)
		want := api.ErrState
		if c.may {
			want = api.OK
		}
		before := text(s)
		if got := Check(s); got != want {
			t.Errorf("%s: got %v, want %v", c.what, got, want)
		}
		if text(s) != before {
			t.Errorf("%s: the state is changed", c.what)
		}
	}
}

// numbersOf a field of the rich state: those at its bounds may be, those outside may not.
func numbersOf(what string, from, to int, set func(s *api.State, n int)) []changed {
	var l []changed
	for _, n := range []int{from, to, from - 1, to + 1, least, huge} {
		l = append(l, changed{what + " " + text(n), func(s *api.State) { set(s, n) }, n >= from && n <= to})
	}
	return l
}

// TestCheckWhole: states that may be, and states of nothing.
func TestCheckWhole(t *testing.T) {
	for _, c := range []struct {
		what string
		s    api.State
		want api.Errno
	}{
		{"rich", rich(), api.OK},
		{"empty", api.State{Next: 1}, api.OK},
		{"zero", api.State{}, api.ErrState},
		{"as many versions as may be", crowded(api.MaxLive), api.OK},
		{"more versions than may be", crowded(api.MaxLive + 1), api.ErrState},
		{"far more", crowded(5000), api.ErrState},
		{"as many asks as may be", frozen(api.MaxLive, api.MaxQueue), api.OK},
		{"more asks than may be", frozen(api.MaxLive, api.MaxQueue+1), api.ErrState},
	} {
		if got := Check(c.s); got != c.want {
			t.Errorf("%s: got %v, want %v", c.what, got, c.want)
		}
	}
}

// TestCheckNumbers: P3.2, Next, Clock and Gone.
func TestCheckNumbers(t *testing.T) {
	// Fourteen is one more than the greatest Id.
	checks(t, numbersOf("Next", 14, api.MaxNumber, func(s *api.State, n int) { s.Next = n }))
	// A hundred is the greatest Time.
	checks(t, numbersOf("Clock", 100, api.MaxTime, func(s *api.State, n int) { s.Clock = n }))
	checks(t, []changed{
		{"none is gone", func(s *api.State) { s.Gone = nil }, true},
		{"an empty list is gone", func(s *api.State) { s.Gone = []int{} }, true},
		{"the last one is gone", func(s *api.State) { s.Gone = []int{6} }, true},
		{"all are gone", func(s *api.State) { onlyOnDisk(s); s.Gone = numbers(api.MaxVolumes) }, true},
		{"one more is gone", func(s *api.State) { onlyOnDisk(s); s.Gone = numbers(api.MaxVolumes + 1) }, false},
		{"one that there is not is gone", func(s *api.State) { onlyOnDisk(s); s.Gone = []int{api.MaxVolumes} }, false},
		{"one below all is gone", func(s *api.State) { s.Gone = []int{-1} }, false},
		{"one far below all is gone", func(s *api.State) { s.Gone = []int{least, 2} }, false},
		{"one far above all is gone", func(s *api.State) { s.Gone = []int{2, huge} }, false},
		{"one is gone twice", func(s *api.State) { s.Gone = []int{2, 2} }, false},
		{"they fall", func(s *api.State) { s.Gone = []int{5, 2} }, false},
	})
	for _, n := range []int{0, -1, least, huge, api.MaxNumber + 1} {
		if got := Check(api.State{Next: n}); got != api.ErrState {
			t.Errorf("an empty state, Next %d: got %v", n, got)
		}
	}
	for _, n := range []int{-1, least, huge, api.MaxTime + 1} {
		if got := Check(api.State{Next: 1, Clock: n}); got != api.ErrState {
			t.Errorf("an empty state, Clock %d: got %v", n, got)
		}
	}
}

// onlyOnDisk: no version stands on a volume.
func onlyOnDisk(s *api.State) {
	s.Versions, s.Queue = s.Versions[:2], nil
}

// TestCheckBuckets: P3.2.
func TestCheckBuckets(t *testing.T) {
	more := func(name string) func(s *api.State) {
		return func(s *api.State) { s.Buckets = append(s.Buckets, api.Bucket{Name: name}) }
	}
	checks(t, numbersOf("Mode", api.Plain, api.Suspended, func(s *api.State, n int) { s.Buckets[1].Mode = n }))
	checks(t, numbersOf("Freeze", -1, api.MaxTime, func(s *api.State, n int) { s.Buckets[1].Rule.Freeze = n }))
	checks(t, numbersOf("Drop", -1, api.MaxTime, func(s *api.State, n int) { s.Buckets[1].Rule.Drop = n }))
	checks(t, []changed{
		{"as many as may be", more("e"), true},
		{"a long name", more("e2345678"), true},
		{"too long a name", more("e23456789"), false},
		{"one more than may be", func(s *api.State) { more("e")(s); more("f")(s) }, false},
		{"a name with a blank", more("e e"), false},
		{"one twice", more("d"), false},
		{"one ahead of its place", more("c"), false},
		{"the longer one is behind", more("d0"), true},
		{"the longer one is ahead", func(s *api.State) { more("e0")(s); s.Buckets = append(s.Buckets[1:], api.Bucket{Name: "e"}) }, false},
		{"by bytes, small letters are behind great ones", func(s *api.State) { s.Buckets = append([]api.Bucket{{Name: "Z"}}, s.Buckets...) }, true},
		{"great letters are behind small ones", more("Z"), false},
		{"an empty name", func(s *api.State) { s.Buckets = append([]api.Bucket{{}}, s.Buckets...) }, false},
		{"a long prefix", func(s *api.State) { s.Buckets[2].Rule.Prefix = strings.Repeat("a", api.MaxKey) }, true},
		{"too long a prefix", func(s *api.State) { s.Buckets[2].Rule.Prefix = strings.Repeat("a", api.MaxKey+1) }, false},
		{"a prefix with a blank", func(s *api.State) { s.Buckets[0].Rule.Prefix = " " }, false},
		{"one with versions is not there", func(s *api.State) { s.Buckets = s.Buckets[:2] }, false},
	})
}

// TestCheckVersions: P3.2, what all versions have.
func TestCheckVersions(t *testing.T) {
	checks(t, numbersOf("the first Id", 1, 2, func(s *api.State, n int) { s.Versions[hot].Id = n }))
	checks(t, numbersOf("the last Id", 12, 19, func(s *api.State, n int) { s.Versions[7].Id = n }))
	for _, i := range []int{hot, cold, warm, marker} {
		checks(t, numbersOf("Time", 0, 100, func(s *api.State, n int) { s.Versions[i].Time = n }))
		v := func(change func(v *api.Version)) func(s *api.State) {
			return func(s *api.State) { change(&s.Versions[i]) }
		}
		checks(t, []changed{
			{"no such bucket", v(func(v *api.Version) { v.Bucket = "c" }), false},
			{"no bucket", v(func(v *api.Version) { v.Bucket = "" }), false},
			{"a bucket with more behind it", v(func(v *api.Version) { v.Bucket += " " }), false},
			{"no key", v(func(v *api.Version) { v.Key = "" }), false},
			{"a long key", v(func(v *api.Version) { v.Key = strings.Repeat("k", api.MaxKey) }), true},
			{"too long a key", v(func(v *api.Version) { v.Key = strings.Repeat("k", api.MaxKey+1) }), false},
			{"a key with a byte that may not be", v(func(v *api.Version) { v.Key = "k\x7f" }), false},
			{"a tier that there is not", v(func(v *api.Version) { v.Tier = 4 }), false},
			{"a tier below all", v(func(v *api.Version) { v.Tier = -1 }), false},
			{"a far tier", v(func(v *api.Version) { v.Tier = huge }), false},
		})
	}
	checks(t, []changed{
		{"an Id twice", func(s *api.State) { s.Versions[3].Id = 5 }, false},
		{"Ids that fall", func(s *api.State) { s.Versions[0], s.Versions[1] = s.Versions[1], s.Versions[0] }, false},
		{"the Id of an upload", func(s *api.State) { s.Versions[1].Id = 4 }, true},
		{"no tier", func(s *api.State) { s.Versions[1].Tier = 0 }, false},
		{"two without a number, of one key", func(s *api.State) { s.Versions[5].Null = true }, false},
		{"two that are far apart", func(s *api.State) { s.Versions[0].Bucket = "d" }, false},
		{"two of one key, in two buckets", func(s *api.State) { s.Versions[1].Null = true }, true},
		{"two of one bucket, of two keys", func(s *api.State) { s.Versions[7].Null = true }, true},
		{"two of one text, split at another place", func(s *api.State) {
			s.Buckets = append(s.Buckets, api.Bucket{Name: "dx"})
			s.Versions[6].Key = "xx"
			s.Versions[7].Bucket, s.Versions[7].Key, s.Versions[7].Null = "dx", "x", true
		}, true},
	})
}

// TestCheckTiers: P3.2, what a version has, by its tier.
func TestCheckTiers(t *testing.T) {
	v := func(i int, change func(v *api.Version)) func(s *api.State) {
		return func(s *api.State) { change(&s.Versions[i]) }
	}
	for _, n := range []int{1, -1, least, huge} {
		checks(t, []changed{
			{"a marker with a size", v(marker, func(v *api.Version) { v.Size = n }), false},
			{"a marker with a tier", v(marker, func(v *api.Version) { v.Tier = n }), false},
			{"a marker with a volume", v(marker, func(v *api.Version) { v.Volume = n }), false},
			{"a marker with a place", v(marker, func(v *api.Version) { v.At = n }), false},
			{"a marker with a time", v(marker, func(v *api.Version) { v.Until = n }), false},
			{"a hot one with a volume", v(hot, func(v *api.Version) { v.Volume = n }), false},
			{"a hot one with a place", v(hot, func(v *api.Version) { v.At = n }), false},
			{"a hot one with a time", v(hot, func(v *api.Version) { v.Until = n }), false},
			{"a cold one with a time", v(cold, func(v *api.Version) { v.Until = n }), false},
		})
	}
	checks(t, numbersOf("the size of a cold one", 0, api.MaxBody, func(s *api.State, n int) { s.Versions[cold].Size = n }))
	checks(t, numbersOf("the size of a hot one", 65, 128, func(s *api.State, n int) { s.Versions[hot].Size = n }))
	checks(t, numbersOf("the size of a warm one", 129, 192, func(s *api.State, n int) { s.Versions[warm].Size = n }))
	checks(t, numbersOf("the time of a warm one", 0, api.MaxTime+api.MaxDays, func(s *api.State, n int) { s.Versions[warm].Until = n }))
	checks(t, numbersOf("the volume 6 or 7 of a cold one", 6, 7, func(s *api.State, n int) { s.Versions[cold].Volume = n }))
	checks(t, numbersOf("the volume 0 or 1 of a cold one", 0, 1, func(s *api.State, n int) { s.Versions[cold].Volume = n }))
	checks(t, numbersOf("the volume 3 or 4 of a warm one", 3, 4, func(s *api.State, n int) { s.Versions[warm].Volume = n }))
	checks(t, numbersOf("the volume 0 or 1 of a warm one", 0, 1, func(s *api.State, n int) { s.Versions[warm].Volume = n }))
	for _, i := range []int{cold, warm} {
		checks(t, numbersOf("the place of one on tape", 0, api.MaxVolume, func(s *api.State, n int) { s.Versions[i].At = n }))
	}
	checks(t, []changed{
		{"a marker with sectors", v(marker, func(v *api.Version) { v.Sectors = []int{50} }), false},
		{"a cold one with sectors", v(cold, func(v *api.Version) { v.Sectors = []int{50} }), false},
		{"an empty cold one with sectors", v(cold, func(v *api.Version) { v.Size, v.Sectors = 0, []int{50} }), false},
		{"a marker that is hot", v(marker, func(v *api.Version) { v.Tier = api.Hot }), false},
		{"a hot one without sectors", v(hot, func(v *api.Version) { v.Sectors = nil }), false},
		{"a hot one with more sectors", v(hot, func(v *api.Version) { v.Sectors = []int{50, 51, 52} }), false},
		{"a hot one that is empty", v(hot, func(v *api.Version) { v.Size, v.Sectors = 0, nil }), true},
		{"a hot one that is empty, with a sector", v(hot, func(v *api.Version) { v.Size, v.Sectors = 0, []int{50} }), false},
		{"a hot one that is full", v(hot, func(v *api.Version) { v.Size, v.Sectors = api.MaxBody, numbers(30)[20:] }), true},
		{"a hot one that is too full", v(hot, func(v *api.Version) { v.Size, v.Sectors = api.MaxBody+1, numbers(30)[20:] }), false},
		{"a hot one that is below empty", v(hot, func(v *api.Version) { v.Size, v.Sectors = -1, nil }), false},
		{"a warm one without sectors", v(warm, func(v *api.Version) { v.Sectors = nil }), false},
		{"a warm one that is empty", v(warm, func(v *api.Version) { v.Size, v.Sectors = 0, nil }), true},
		{"a warm one that is too full", v(warm, func(v *api.Version) { v.Size, v.Sectors = api.MaxBody+1, numbers(30)[20:] }), false},
		{"a volume of a cold one is gone", func(s *api.State) { s.Gone = []int{1} }, false},
		{"a volume of a warm one is gone", func(s *api.State) { s.Gone = []int{3} }, false},
		{"the volume 0 of a cold one is gone", func(s *api.State) { s.Gone = []int{0} }, false},
		{"the volume 0 is gone, and a hot one is there", func(s *api.State) { onlyOnDisk(s); s.Gone = []int{0} }, true},
	})
}

// TestCheckUploads: P3.3.
func TestCheckUploads(t *testing.T) {
	u := func(change func(u *api.Upload)) func(s *api.State) {
		return func(s *api.State) { change(&s.Uploads[0]) }
	}
	more := func(l ...int) func(s *api.State) {
		return func(s *api.State) {
			for _, id := range l {
				s.Uploads = append(s.Uploads, api.Upload{Id: id, Bucket: "a", Key: "x"})
			}
		}
	}
	checks(t, numbersOf("the first Id", 1, 11, func(s *api.State, n int) { s.Uploads[0].Id = n }))
	checks(t, numbersOf("the last Id", 5, 19, func(s *api.State, n int) { s.Uploads[1].Id = n }))
	checks(t, []changed{
		{"none", func(s *api.State) { s.Uploads = nil }, true},
		{"as many as may be", more(18, 19), true},
		{"more than may be", more(17, 18, 19), false},
		{"an Id twice", more(12), false},
		{"Ids that fall", more(11), false},
		{"no such bucket", u(func(u *api.Upload) { u.Bucket = "c" }), false},
		{"no key", u(func(u *api.Upload) { u.Key = "" }), false},
		{"a long key", u(func(u *api.Upload) { u.Key = strings.Repeat("k", api.MaxKey) }), true},
		{"too long a key", u(func(u *api.Upload) { u.Key = strings.Repeat("k", api.MaxKey+1) }), false},
		{"a key with a blank", u(func(u *api.Upload) { u.Key = "k " }), false},
		{"two of one key", u(func(u *api.Upload) { u.Bucket, u.Key = "b", "w" }), true},
	})
}

// TestCheckParts: P3.3.
func TestCheckParts(t *testing.T) {
	parts := func(l ...api.Part) func(s *api.State) {
		return func(s *api.State) { s.Uploads[0].Parts = l }
	}
	checks(t, numbersOf("the first N", 1, 3, func(s *api.State, n int) { s.Uploads[0].Parts[0].N = n }))
	checks(t, numbersOf("the last N", 5, api.MaxParts, func(s *api.State, n int) { s.Uploads[0].Parts[2].N = n }))
	checks(t, numbersOf("the size", 65, 128, func(s *api.State, n int) { s.Uploads[0].Parts[0].Size = n }))
	checks(t, []changed{
		{"none", parts(), true},
		{"all", parts(api.Part{N: 1}, api.Part{N: 2}, api.Part{N: 3}, api.Part{N: 4}, api.Part{N: 5}), true},
		{"one more", parts(api.Part{N: 1}, api.Part{N: 2}, api.Part{N: 3}, api.Part{N: 4}, api.Part{N: 5}, api.Part{N: 6}), false},
		{"one twice", parts(api.Part{N: 2}, api.Part{N: 2}), false},
		{"they fall", parts(api.Part{N: 3}, api.Part{N: 2}), false},
		{"a full one", parts(api.Part{N: 1, Size: api.MaxBody, Sectors: numbers(40)[30:]}), true},
		{"too full a one", parts(api.Part{N: 1, Size: api.MaxBody + 1, Sectors: numbers(40)[30:]}), false},
		{"one below empty", parts(api.Part{N: 1, Size: -1}), false},
		{"an empty one with a sector", parts(api.Part{N: 1, Sectors: []int{30}}), false},
		{"one without its sector", parts(api.Part{N: 1, Size: 1}), false},
		{"one with a sector more", parts(api.Part{N: 1, Size: 64, Sectors: []int{30, 31}}), false},
	})
}

// TestCheckQueue: P3.3.
func TestCheckQueue(t *testing.T) {
	queue := func(l ...api.Ask) func(s *api.State) { return func(s *api.State) { s.Queue = l } }
	checks(t, numbersOf("Days", 1, api.MaxDays, func(s *api.State, n int) { s.Queue[1].Days = n }))
	checks(t, numbersOf("Class", 0, 2, func(s *api.State, n int) { s.Queue[1].Class = n }))
	checks(t, []changed{
		{"none", queue(), true},
		{"in another order", queue(api.Ask{Version: 11, Days: 1}, api.Ask{Version: 5, Days: 1}), true},
		{"of one twice", queue(api.Ask{Version: 5, Days: 1}, api.Ask{Version: 9, Days: 1}, api.Ask{Version: 5, Days: 2}), false},
		{"of a hot one", queue(api.Ask{Version: 2, Days: 1}), false},
		{"of a warm one", queue(api.Ask{Version: 6, Days: 1}), false},
		{"of a marker", queue(api.Ask{Version: 8, Days: 1}), false},
		{"of one that is not there", queue(api.Ask{Version: 10, Days: 1}), false},
		{"of an upload", queue(api.Ask{Version: 4, Days: 1}), false},
		{"of none", queue(api.Ask{Days: 1}), false},
		{"of a far one", queue(api.Ask{Version: least, Days: 1}), false},
	})
}

// TestCheckSectors: P3.3, of versions and parts together.
func TestCheckSectors(t *testing.T) {
	set := func(version, warmOne, part, other int) func(s *api.State) {
		return func(s *api.State) {
			s.Versions[hot].Sectors[1] = version
			s.Versions[warm].Sectors[1] = warmOne
			s.Uploads[0].Parts[0].Sectors[1] = part
			s.Uploads[0].Parts[2].Sectors[0] = other
		}
	}
	checks(t, []changed{
		{"at their bounds", set(2, 199, 198, 4), true},
		{"twice in one version", set(7, 100, 101, 102), false},
		{"twice in one part", set(100, 101, 11, 102), false},
		{"in two versions", set(100, 100, 101, 102), false},
		{"in two parts", set(100, 101, 102, 102), false},
		{"in a hot version and a part", set(100, 101, 100, 102), false},
		{"in a warm version and a part", set(100, 101, 102, 101), false},
		{"in two uploads", func(s *api.State) {
			s.Uploads[1].Parts = []api.Part{{N: 1, Size: 1, Sectors: []int{12}}}
		}, false},
	})
	for _, n := range []int{-1, api.MaxHot, api.MaxHot + 1, least, huge} {
		checks(t, []changed{
			{"outside, of a hot version", set(n, 100, 101, 102), false},
			{"outside, of a warm version", set(100, n, 101, 102), false},
			{"outside, of a part", set(100, 101, n, 102), false},
			{"outside, of the last part", set(100, 101, 102, n), false},
		})
	}
}
