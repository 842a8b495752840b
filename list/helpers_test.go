package list

import (
	"fmt"
	"strings"
	"testing"

	"icehouse/api"
	"icehouse/state"
)

// Numbers that are far outside all bounds.
const (
	huge  = int(^uint(0) >> 1)
	least = -huge - 1
)

// none: the rule of a new bucket.
func none() api.Rule { return api.Rule{Freeze: -1, Drop: -1} }

// mixed state: versions of all tiers and markers, of keys that do not stand in the order of their Ids; made anew each time.
func mixed() api.State {
	return api.State{
		Next:  30,
		Clock: 50,
		Buckets: []api.Bucket{
			{Name: "a", Mode: api.Enabled, Rule: none()},
			{Name: "b", Mode: api.Suspended, Rule: none()},
			{Name: "empty", Rule: none()},
		},
		Versions: []api.Version{
			{Id: 2, Bucket: "a", Key: "z", Size: 3, Time: 9, Tier: api.Hot, Sectors: []int{5}},
			{Id: 3, Bucket: "a", Key: "y/2", Size: 65, Time: 10, Tier: api.Cold, Volume: 2, At: 7},
			{Id: 4, Bucket: "a", Key: "y/1", Size: 0, Tier: api.Hot},
			{Id: 5, Bucket: "a", Key: "y", Null: true, Size: 64, Tier: api.Warm, Sectors: []int{9}, Volume: 1, At: 3, Until: 60},
			{Id: 6, Bucket: "a", Key: "y/2", Size: 66, Tier: api.Hot, Sectors: []int{1, 0}},
			{Id: 7, Bucket: "b", Key: "y/2", Size: 600, Tier: api.Cold},
			{Id: 8, Bucket: "a", Key: "y/1/x", Marker: true, Time: 3},
			{Id: 9, Bucket: "a", Key: "Y", Tier: api.Cold},
			{Id: 11, Bucket: "a", Key: "z", Marker: true, Null: true},
			{Id: 12, Bucket: "b", Key: "z", Size: 1, Tier: api.Cold, Volume: 7},
			{Id: 13, Bucket: "a", Key: "y/2", Size: 7, Tier: api.Cold, Volume: 1},
			{Id: 15, Bucket: "a", Key: "y0", Size: 8, Tier: api.Cold, Volume: 1},
			{Id: 16, Bucket: "a", Key: "y/3", Marker: true},
			{Id: 17, Bucket: "a", Key: "y/3", Size: 9, Tier: api.Cold, Volume: 1},
			{Id: 18, Bucket: "b", Key: "y/3", Marker: true},
		},
		Uploads: []api.Upload{{Id: 10, Bucket: "a", Key: "y/9", Parts: []api.Part{{N: 2, Size: 5, Sectors: []int{3}}}}},
		Queue:   []api.Ask{{Version: 9, Days: 2, Class: 1}},
		Gone:    []int{3},
	}
}

// keyed: a state with a bucket, and a version of each key, from 1 on, all cold; a key that begins with - is marked as deleted.
func keyed(keys ...string) api.State {
	s := api.State{Next: len(keys) + 1, Buckets: []api.Bucket{{Name: "a", Mode: api.Enabled, Rule: none()}}}
	for i, k := range keys {
		v := api.Version{Id: i + 1, Bucket: "a", Key: strings.TrimPrefix(k, "-"), Tier: api.Cold}
		if strings.HasPrefix(k, "-") {
			v.Marker, v.Tier = true, 0
		}
		s.Versions = append(s.Versions, v)
	}
	return s
}

// told: rows as one text, each by its key and Id, or as common, and whether there are more.
func told(l []api.Row, more bool) string {
	out := ""
	for _, r := range l {
		if r.Common {
			out += r.Key + "* "
		} else {
			out += fmt.Sprintf("%s:%d ", r.Key, r.Id)
		}
	}
	if more {
		out += "more"
	}
	return strings.TrimSpace(out)
}

// text of a value: lists without elements are the same, nil or not.
func text(x ...any) string { return fmt.Sprintf("%+v", x) }

// goodState: the tests' own states may be.
func goodState(t *testing.T, s api.State) api.State {
	t.Helper()
	if e := state.Check(s); e != api.OK {
		t.Fatalf("the test's own state may not be: %v", e)
	}
	return s
}
