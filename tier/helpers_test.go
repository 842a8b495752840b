package tier

import (
	"fmt"
	"slices"
	"testing"

	"icehouse/api"
	"icehouse/state"
)

// Numbers that are far outside all bounds.
const (
	huge  = int(^uint(0) >> 1)
	least = -huge - 1
)

// none: the rule of a new bucket.
func none() api.Rule { return api.Rule{Freeze: -1, Drop: -1} }

// mixed state at the time 50: versions of all tiers and markers, of three buckets with rules; made anew each time.
func mixed() api.State {
	return api.State{
		Next:  30,
		Clock: 50,
		Buckets: []api.Bucket{
			{Name: "a", Mode: api.Enabled, Rule: api.Rule{Prefix: "y/", Freeze: 10, Drop: 40}},
			{Name: "b", Mode: api.Suspended, Rule: api.Rule{Freeze: -1, Drop: 0}},
			{Name: "c", Rule: api.Rule{Prefix: "z", Freeze: 0, Drop: -1}},
		},
		Versions: []api.Version{
			{Id: 2, Bucket: "a", Key: "y/1", Size: 3, Time: 40, Tier: api.Hot, Sectors: []int{5}},
			{Id: 3, Bucket: "a", Key: "y/1", Size: 65, Time: 10, Tier: api.Cold, Volume: 2, At: 7},
			{Id: 4, Bucket: "a", Key: "y/2", Time: 41, Tier: api.Hot},
			{Id: 5, Bucket: "a", Key: "y/2", Size: 64, Time: 9, Tier: api.Warm, Sectors: []int{9}, Volume: 1, At: 3, Until: 50},
			{Id: 6, Bucket: "a", Key: "y", Size: 66, Tier: api.Hot, Sectors: []int{1, 0}},
			{Id: 7, Bucket: "b", Key: "y/2", Size: 600, Time: 50, Tier: api.Cold, Volume: 2},
			{Id: 8, Bucket: "a", Key: "y/3", Marker: true, Time: 10},
			{Id: 9, Bucket: "a", Key: "y/3", Marker: true, Time: 11},
			{Id: 12, Bucket: "b", Key: "z", Size: 1, Time: 3, Tier: api.Warm, Sectors: []int{2}, Volume: 7, Until: 51},
			{Id: 13, Bucket: "c", Key: "z", Size: 7, Time: 50, Tier: api.Hot, Sectors: []int{3}},
			{Id: 15, Bucket: "c", Key: "az", Size: 8, Tier: api.Warm, Sectors: []int{7}, Volume: 1, Until: 49},
			{Id: 16, Bucket: "b", Key: "w", Time: 50, Tier: api.Hot},
			{Id: 17, Bucket: "c", Key: "z/1", Size: 9, Tier: api.Cold, Volume: 1, At: 80},
		},
		Uploads: []api.Upload{{Id: 10, Bucket: "a", Key: "y/9", Parts: []api.Part{{N: 2, Size: 5, Sectors: []int{4}}}}},
		Queue:   []api.Ask{{Version: 17, Days: 2, Class: 1}, {Version: 7, Days: 5}, {Version: 3, Days: 9}},
		Gone:    []int{3, 5},
	}
}

// ruled: a state at a time, of a bucket with a rule, and one version there.
func ruled(clock int, r api.Rule, v api.Version) api.State {
	v.Id, v.Bucket = 1, "a"
	return api.State{Next: 2, Clock: clock, Buckets: []api.Bucket{{Name: "a", Rule: r}}, Versions: []api.Version{v}}
}

// onVolume: a state with a cold version of each of these sizes, all on one volume.
func onVolume(volume int, sizes ...int) api.State {
	s := api.State{Next: len(sizes) + 1, Buckets: []api.Bucket{{Name: "a", Rule: none()}}}
	for i, n := range sizes {
		s.Versions = append(s.Versions, api.Version{Id: i + 1, Bucket: "a", Key: "k", Size: n, Tier: api.Cold, Volume: volume})
	}
	return s
}

// geo: of volumes of 400 bytes.
func geo(volumes int) api.Geometry {
	return api.Geometry{Ring: 8, Area: 12, Hot: 9, Volume: 400, Volumes: volumes}
}

// zeros: so many sizes.
func zeros(many int) []int { return make([]int, many) }

// text of values: lists without elements are the same, nil or not.
func text(x ...any) string { return fmt.Sprintf("%+v", x) }

// goodState: the tests' own states may be.
func goodState(t *testing.T, s api.State) api.State {
	t.Helper()
	if e := state.Check(s); e != api.OK {
		t.Fatalf("the test's own state may not be: %v", e)
	}
	return s
}

// tells: these Ids, and no error.
func tells(t *testing.T, what string, l []int, e api.Errno, want ...int) {
	t.Helper()
	if e != api.OK || !slices.Equal(l, want) {
		t.Errorf("%s: %v, %v, want %v", what, l, e, want)
	}
}

// badStates: may not be, each for another reason.
func badStates() map[string]api.State {
	with := func(change func(s *api.State)) api.State {
		s := mixed()
		change(&s)
		return s
	}
	return map[string]api.State{
		"nothing":              {},
		"Next":                 with(func(s *api.State) { s.Next = 17 }),
		"Clock":                with(func(s *api.State) { s.Clock = 49 }),
		"a far Clock":          with(func(s *api.State) { s.Clock = huge }),
		"a far volume":         with(func(s *api.State) { s.Versions[1].Volume = api.MaxVolumes }),
		"a volume below all":   with(func(s *api.State) { s.Versions[1].Volume = least }),
		"a volume that is not": with(func(s *api.State) { s.Gone = []int{2} }),
		"no bucket":            with(func(s *api.State) { s.Versions[2].Bucket = "d" }),
		"a Freeze":             with(func(s *api.State) { s.Buckets[0].Rule.Freeze = -2 }),
		"a Drop":               with(func(s *api.State) { s.Buckets[0].Rule.Drop = least }),
		"a Size":               with(func(s *api.State) { s.Versions[5].Size = huge }),
		"an ask of a hot one":  with(func(s *api.State) { s.Queue[0].Version = 2 }),
		"a Class":              with(func(s *api.State) { s.Queue[0].Class = 3 }),
	}
}
