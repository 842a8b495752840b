package tier

import (
	"strings"
	"testing"

	"icehouse/api"
)

// TestStateRefused: P7.1: a state that may not be is refused by all calls, ahead of what else they refuse, and nothing is told beside it.
func TestStateRefused(t *testing.T) {
	bad := api.Geometry{Ring: -1, Area: -1, Hot: -1, Volume: -1, Volumes: 9}
	for what, s := range badStates() {
		before := text(s)
		refused := func(call string, e api.Errno, empty bool) {
			if e != api.ErrState || !empty {
				t.Errorf("%s: %s: %v, nothing beside it: %v", what, call, e, empty)
			}
		}
		for _, c := range []struct {
			name string
			call func(s api.State) ([]int, api.Errno)
		}{{"Freeze", Freeze}, {"Drop", Drop}, {"Chill", Chill}, {"Live", Live}} {
			l, e := c.call(s)
			refused(c.name, e, len(l) == 0)
		}
		a, e := Next(s)
		refused("Next", e, a == api.Ask{})
		for _, sizes := range [][]int{nil, {9}, {-1}, zeros(9)} {
			n, l, e := Half(s, sizes)
			refused("Half", e, n == 0 && len(l) == 0)
			n, e = Place(geo(3), s, sizes, 6, -1)
			refused("Place", e, n == 0)
			n, e = Place(bad, s, sizes, -1, -1)
			refused("Place of wrong numbers", e, n == 0)
		}
		if text(s) != before {
			t.Errorf("%s: what was handed in is changed", what)
		}
	}
}

// TestMixed: P7.2, of a state with all kinds of versions.
func TestMixed(t *testing.T) {
	s := goodState(t, mixed())
	l, e := Freeze(s)
	tells(t, "Freeze", l, e, 2, 13)
	l, e = Drop(s)
	tells(t, "Drop", l, e, 3, 5, 7, 8, 12, 16)
	l, e = Chill(s)
	tells(t, "Chill", l, e, 5, 15)
	empty := api.State{Next: 1}
	l, e = Freeze(empty)
	tells(t, "Freeze of nothing", l, e)
	l, e = Drop(empty)
	tells(t, "Drop of nothing", l, e)
	l, e = Chill(empty)
	tells(t, "Chill of nothing", l, e)
}

// TestAge: P7.1: which number is for a version, by how old it is.
func TestAge(t *testing.T) {
	for _, c := range []struct {
		clock, time, n int
		is             bool
	}{
		{0, 0, 0, true}, {0, 0, -1, false}, {0, 0, 1, false},
		{9, 4, 4, true}, {9, 4, 5, true}, {9, 4, 6, false}, {9, 4, -1, false},
		{9, 9, 0, true}, {9, 9, 1, false}, {9, 0, 9, true}, {9, 0, 10, false},
		{api.MaxTime, 0, api.MaxTime, true}, {api.MaxTime, 1, api.MaxTime, false}, {api.MaxTime, 1, api.MaxTime - 1, true},
		{api.MaxTime, api.MaxTime, 0, true}, {api.MaxTime, api.MaxTime, -1, false}, {api.MaxTime, 0, -1, false},
	} {
		v := api.Version{Key: "k", Time: c.time, Tier: api.Hot}
		want := []int{1}
		if !c.is {
			want = nil
		}
		// The other number would say otherwise: it is not the one that is meant.
		other := -1
		if !c.is {
			other = 0
		}
		l, e := Freeze(goodState(t, ruled(c.clock, api.Rule{Freeze: c.n, Drop: other}, v)))
		tells(t, "Freeze of "+text(c), l, e, want...)
		l, e = Drop(goodState(t, ruled(c.clock, api.Rule{Freeze: other, Drop: c.n}, v)))
		tells(t, "Drop of "+text(c), l, e, want...)
	}
}

// TestPrefix: P7.1: which number is for a version, by its key.
func TestPrefix(t *testing.T) {
	long := strings.Repeat("k", api.MaxKey)
	for _, c := range []struct {
		prefix, key string
		is          bool
	}{
		{"", "k", true}, {"k", "k", true}, {"k", "kl", true}, {"kl", "k", false}, {"l", "kl", false},
		{"K", "k", false}, {"k/", "k", false}, {"k/", "k/", true}, {"k/", "k/1", true}, {"k/", "k0", false},
		{long, long, true}, {long, long[1:], false}, {long[1:], long, true}, {long[1:] + "l", long, false},
	} {
		v := api.Version{Key: c.key, Tier: api.Hot}
		want := []int{1}
		if !c.is {
			want = nil
		}
		s := goodState(t, ruled(3, api.Rule{Prefix: c.prefix}, v))
		l, e := Freeze(s)
		tells(t, "Freeze of "+text(c), l, e, want...)
		l, e = Drop(s)
		tells(t, "Drop of "+text(c), l, e, want...)
	}
}

// TestOtherBucket: P7.1: the rule of another bucket is not for a version.
func TestOtherBucket(t *testing.T) {
	s := ruled(9, none(), api.Version{Key: "k", Tier: api.Hot})
	s.Buckets = []api.Bucket{{Name: "A"}, s.Buckets[0], {Name: "a0"}, {Name: "b"}}
	l, e := Freeze(goodState(t, s))
	tells(t, "Freeze", l, e)
	l, e = Drop(s)
	tells(t, "Drop", l, e)
}

// TestTiers: P7.2: which versions of each tier are told, when all that rules say is for them.
func TestTiers(t *testing.T) {
	for _, c := range []struct {
		what                string
		v                   api.Version
		freeze, drop, chill bool
	}{
		{"hot", api.Version{Size: 1, Tier: api.Hot, Sectors: []int{0}}, true, true, false},
		{"hot and empty", api.Version{Tier: api.Hot}, true, true, false},
		{"hot without a number", api.Version{Null: true, Tier: api.Hot}, true, true, false},
		{"cold", api.Version{Size: 1, Tier: api.Cold, Volume: 1}, false, true, false},
		{"warm, its time is over", api.Version{Size: 1, Tier: api.Warm, Sectors: []int{0}, Until: 8}, false, true, true},
		{"warm, its time is over now", api.Version{Size: 1, Tier: api.Warm, Sectors: []int{0}, Until: 9}, false, true, true},
		{"warm, its time is not over", api.Version{Size: 1, Tier: api.Warm, Sectors: []int{0}, Until: 10}, false, true, false},
		{"warm for very long", api.Version{Tier: api.Warm, Until: api.MaxTime + api.MaxDays}, false, true, false},
		{"warm and empty", api.Version{Tier: api.Warm}, false, true, true},
		{"a marker", api.Version{Marker: true}, false, true, false},
		{"a marker without a number", api.Version{Marker: true, Null: true}, false, true, false},
	} {
		c.v.Key = "k"
		s := goodState(t, ruled(9, api.Rule{}, c.v))
		for _, call := range []struct {
			name string
			call func(s api.State) ([]int, api.Errno)
			is   bool
		}{{"Freeze", Freeze, c.freeze}, {"Drop", Drop, c.drop}, {"Chill", Chill, c.chill}} {
			var want []int
			if call.is {
				want = []int{1}
			}
			l, e := call.call(s)
			tells(t, call.name+", "+c.what, l, e, want...)
		}
	}
}

// TestNext: P7.3.
func TestNext(t *testing.T) {
	for _, c := range []struct {
		classes []int
		want    int // its place in the queue
	}{
		{[]int{0}, 0}, {[]int{2}, 0}, {[]int{0, 0}, 0}, {[]int{1, 0}, 1}, {[]int{0, 1}, 0}, {[]int{2, 1, 0}, 2},
		{[]int{2, 1, 1}, 1}, {[]int{1, 2, 1}, 0}, {[]int{2, 2, 2}, 0}, {[]int{1, 0, 2, 0}, 1},
		{[]int{2, 2, 1, 2, 1, 2, 2, 1, 2, 0}, 9}, {[]int{2, 2, 2, 2, 1, 2, 2, 1, 2, 2}, 4},
	} {
		s := onVolume(0, zeros(10)...)
		for i, class := range c.classes {
			// Neither the least Id nor the least Days goes first.
			s.Queue = append(s.Queue, api.Ask{Version: 10 - i, Days: 20 - i, Class: class})
		}
		a, e := Next(goodState(t, s))
		if want := s.Queue[c.want]; e != api.OK || a != want {
			t.Errorf("Next of classes %v: %v, %v, want %v", c.classes, a, e, want)
		}
	}
	for what, s := range map[string]api.State{"nothing": {Next: 1}, "no ask": onVolume(0, 3), "an empty queue": {Next: 1, Queue: []api.Ask{}}} {
		if a, e := Next(s); a != (api.Ask{}) || e != api.ErrIdle {
			t.Errorf("Next of %s: %v, %v", what, a, e)
		}
	}
}
