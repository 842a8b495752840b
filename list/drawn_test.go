package list

import (
	"slices"
	"strings"
	"testing"

	"icehouse/api"
)

// die: numbers that look drawn, the same each time.
type die uint64

func (d *die) n(most int) int {
	*d = *d*6364136223846793005 + 1442695040888963407
	return int(uint64(*d>>33) % uint64(most))
}

// word of so many letters at most, few of them different.
func (d *die) word(most int) string {
	out := ""
	for range d.n(most + 1) {
		out += string("ab/!"[d.n(4)])
	}
	return out
}

// state of two buckets, with versions that are cold, or markers.
func (d *die) state() api.State {
	s := api.State{Next: 100, Buckets: []api.Bucket{{Name: "a", Rule: none()}, {Name: "b", Rule: none()}}}
	id := 0
	for range d.n(api.MaxLive + 1) {
		id += 1 + d.n(2)
		v := api.Version{Id: id, Bucket: []string{"a", "b"}[d.n(2)], Key: "a" + d.word(3), Marker: d.n(4) == 0}
		if d.n(3) == 0 {
			v.Key = "!" + d.word(2)
		}
		if !v.Marker {
			v.Tier, v.Size = api.Cold, d.n(api.MaxBody+1)
		}
		s.Versions = append(s.Versions, v)
	}
	return s
}

// slowLatest: does no version of the key there have a greater Id?
func slowLatest(s api.State, v api.Version) bool {
	for _, w := range s.Versions {
		if w.Bucket == v.Bucket && w.Key == v.Key && w.Id > v.Id {
			return false
		}
	}
	return true
}

// slowRows of a bucket, one by one: each time the least key that is left, and of it the greatest Id.
func slowRows(s api.State, name, prefix string) []api.Row {
	var out []api.Row
	left := slices.Clone(s.Versions)
	for len(left) > 0 {
		at := 0
		for i, v := range left {
			if v.Key < left[at].Key || v.Key == left[at].Key && v.Id > left[at].Id {
				at = i
			}
		}
		v := left[at]
		left = slices.Delete(left, at, at+1)
		if v.Bucket == name && len(v.Key) >= len(prefix) && v.Key[:len(prefix)] == prefix {
			out = append(out, api.Row{Key: v.Key, Id: v.Id, Marker: v.Marker, Latest: slowLatest(s, v), Size: v.Size, Tier: v.Tier})
		}
	}
	return out
}

// slowKeys: the rows of Keys, all of them.
func slowKeys(s api.State, name, prefix, delimiter, after string) []api.Row {
	var out []api.Row
	seen := map[string]bool{}
	for _, r := range slowRows(s, name, prefix) {
		if r.Marker || !r.Latest {
			continue
		}
		if head, _, cut := strings.Cut(r.Key[len(prefix):], delimiter); cut && delimiter != "" {
			r = api.Row{Key: prefix + head + delimiter, Common: true}
		}
		if r.Key <= after || r.Common && seen[r.Key] {
			continue
		}
		seen[r.Key] = r.Common
		out = append(out, r)
	}
	return out
}

// TestDrawn: P6.1 to P6.3, by another way to the same rows.
func TestDrawn(t *testing.T) {
	d := die(11)
	pages := 0
	for range 3000 {
		s := goodState(t, d.state())
		name, prefix, after := []string{"a", "b"}[d.n(2)], d.word(2), d.word(4)
		delimiter, most := []string{"", "/", "a", "!"}[d.n(4)], 1+d.n(9)
		if d.n(2) == 0 {
			prefix = ""
		}
		want := slowRows(s, name, prefix)
		l, more, e := Versions(s, name, prefix, most)
		if e != api.OK || more != (len(want) > most) || !slices.Equal(l, want[:min(most, len(want))]) {
			t.Fatalf("Versions(%+v, %q, %q, %d): %v, %v, %v, want %v", s, name, prefix, most, l, more, e, want)
		}
		want = slowKeys(s, name, prefix, delimiter, after)
		l, more, e = Keys(s, name, prefix, delimiter, after, most)
		if e != api.OK || more != (len(want) > most) || !slices.Equal(l, want[:min(most, len(want))]) {
			t.Fatalf("Keys(%+v, %q, %q, %q, %q, %d): %v, %v, %v, want %v", s, name, prefix, delimiter, after, most, l, more, e, want)
		}
		if more {
			pages++
		}
	}
	if pages < 100 {
		t.Errorf("more only %d times: the drawn ones say little", pages)
	}
}

// TestLeftAlone: nothing that is handed in is changed, its spare room neither, and answers share nothing.
func TestLeftAlone(t *testing.T) {
	s := mixed()
	mark := api.Version{Id: 777, Key: "mark"}
	many := len(s.Versions)
	s.Versions = append(s.Versions, mark, mark, mark)[:many]
	s.Buckets = append(s.Buckets, api.Bucket{Name: "mark"})[:len(s.Buckets)]
	all := func() string { return text(s, s.Versions[:many+3], s.Buckets[:4]) }
	ahead := all()
	calls := []func() ([]api.Row, bool, api.Errno){
		func() ([]api.Row, bool, api.Errno) { return Keys(s, "a", "", "", "", 50) },
		func() ([]api.Row, bool, api.Errno) { return Keys(s, "a", "", "/", "", 2) },
		func() ([]api.Row, bool, api.Errno) { return Versions(s, "a", "y", 3) },
		func() ([]api.Row, bool, api.Errno) { return Versions(s, "a", "", 50) },
	}
	for i, call := range calls {
		l, _, _ := call()
		want := text(l)
		for _, other := range calls {
			m, _, _ := other()
			for k := range m[:cap(m)] {
				m[:cap(m)][k] = api.Row{Key: "spoilt"}
			}
		}
		if text(l) != want {
			t.Errorf("call %d: its answer shares memory with another", i)
		}
		if m, _, _ := call(); text(m) != want {
			t.Errorf("call %d: another answer the second time", i)
		}
		if all() != ahead {
			t.Errorf("call %d: what was handed in is changed", i)
		}
	}
}
