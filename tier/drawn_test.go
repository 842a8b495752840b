package tier

import (
	"slices"
	"testing"

	"icehouse/api"
)

// die: numbers that look drawn, the same each time.
type die uint64

func (d *die) n(most int) int {
	*d = *d*6364136223846793005 + 1442695040888963407
	return int(uint64(*d>>33) % uint64(most))
}

// version that looks drawn, in a state at the time 9.
func (d *die) version(id int) api.Version {
	v := api.Version{Id: id, Bucket: []string{"a", "b"}[d.n(2)], Key: []string{"x", "y", "y/1"}[d.n(3)], Time: d.n(10)}
	v.Tier = d.n(4)
	v.Marker = v.Tier == 0
	if v.Tier > api.Hot {
		v.Volume, v.Size = []int{0, 1, 3, 4}[d.n(4)], d.n(60)
	}
	if v.Tier == api.Warm {
		v.Until = 5 + d.n(9)
	}
	if v.Tier != api.Cold && v.Size > 0 {
		v.Sectors = []int{id}
	}
	return v
}

// state of two buckets, at the time 9.
func (d *die) state() api.State {
	s := api.State{Next: 100, Clock: 9, Gone: []int{2}}
	for _, name := range []string{"a", "b"} {
		r := api.Rule{Prefix: []string{"", "y", "y/"}[d.n(3)], Freeze: d.n(11) - 1, Drop: d.n(11) - 1}
		s.Buckets = append(s.Buckets, api.Bucket{Name: name, Rule: r})
	}
	id := 0
	for range d.n(12) {
		id += 1 + d.n(2)
		v := d.version(id)
		s.Versions = append(s.Versions, v)
		if v.Tier == api.Cold && len(s.Queue) < api.MaxQueue && d.n(2) == 0 {
			s.Queue = slices.Insert(s.Queue, d.n(len(s.Queue)+1), api.Ask{Version: id, Days: 1 + d.n(3), Class: d.n(3)})
		}
	}
	return s
}

// slowIds of versions, by a question to each.
func slowIds(s api.State, is func(v api.Version, r api.Rule) bool) []int {
	var out []int
	for _, v := range s.Versions {
		for _, b := range s.Buckets {
			if b.Name == v.Bucket && is(v, b.Rule) {
				out = append(out, v.Id)
			}
		}
	}
	return out
}

// slowFor: is a number, with a prefix, for a version at the time 9?
func slowFor(v api.Version, prefix string, n int) bool {
	return n != -1 && v.Time+n <= 9 && len(v.Key) >= len(prefix) && v.Key[:len(prefix)] == prefix
}

// slowNext: the first one of class 0, else of class 1, else of class 2.
func slowNext(s api.State) (api.Ask, api.Errno) {
	for class := range 3 {
		for _, a := range s.Queue {
			if a.Class == class {
				return a, api.OK
			}
		}
	}
	return api.Ask{}, api.ErrIdle
}

// slowHalf: the first volume of which more is dead than lives, or as much.
func slowHalf(s api.State, sizes []int) (int, []int, api.Errno) {
	for n, size := range sizes {
		there := slowIds(s, func(v api.Version, r api.Rule) bool { return v.Tier >= api.Cold && v.Volume == n })
		dead := size
		for _, v := range s.Versions {
			if slices.Contains(there, v.Id) {
				dead -= v.Size + 6
			}
		}
		if size != 0 && n != 2 && dead >= size-dead {
			return n, there, api.OK
		}
	}
	return 0, nil, api.ErrIdle
}

// TestDrawn: P7.1 to P7.5, by another way to the same answers.
func TestDrawn(t *testing.T) {
	d := die(5)
	halves, asks := 0, 0
	for range 5000 {
		s := goodState(t, d.state())
		l, e := Freeze(s)
		tells(t, "Freeze of "+text(s), l, e, slowIds(s, func(v api.Version, r api.Rule) bool {
			return v.Tier == api.Hot && slowFor(v, r.Prefix, r.Freeze)
		})...)
		l, e = Drop(s)
		tells(t, "Drop of "+text(s), l, e, slowIds(s, func(v api.Version, r api.Rule) bool { return slowFor(v, r.Prefix, r.Drop) })...)
		l, e = Chill(s)
		tells(t, "Chill of "+text(s), l, e, slowIds(s, func(v api.Version, r api.Rule) bool { return v.Tier == api.Warm && v.Until < 10 })...)
		if got, want := text(Next(s)), text(slowNext(s)); got != want {
			t.Errorf("Next of %+v: %s, want %s", s, got, want)
		}
		sizes := []int{d.n(200), d.n(200), d.n(200), d.n(200), d.n(200)}[:d.n(6)]
		if got, want := text(Half(s, sizes)), text(slowHalf(s, sizes)); got != want {
			t.Errorf("Half of %+v, %v: %s, want %s", s, sizes, got, want)
		}
		if n, _, _ := Half(s, sizes); n > 0 {
			halves++
		}
		if len(s.Queue) > 1 {
			asks++
		}
		if t.Failed() {
			return
		}
	}
	if halves < 500 || asks < 500 {
		t.Errorf("%d halves, %d queues: the drawn ones say little", halves, asks)
	}
}

// TestLeftAlone: nothing that is handed in is changed, its spare room neither, and answers share nothing.
func TestLeftAlone(t *testing.T) {
	s := goodState(t, mixed())
	versions, queue, gone := len(s.Versions), len(s.Queue), len(s.Gone)
	s.Versions = append(s.Versions, api.Version{Id: 777}, api.Version{Id: 777})[:versions]
	s.Queue = append(s.Queue, api.Ask{Version: 777}, api.Ask{Version: 777})[:queue]
	s.Gone = append(s.Gone, 777, 777)[:gone]
	sizes := []int{0, 198, 1400, 777, 777}[:3]
	all := func() string { return text(s, s.Versions[:versions+2], s.Queue[:queue+2], s.Gone[:gone+2], sizes[:5]) }
	ahead := all()
	calls := []func() []int{
		func() []int { l, _ := Freeze(s); return l },
		func() []int { l, _ := Drop(s); return l },
		func() []int { l, _ := Chill(s); return l },
		func() []int { l, _ := Live(s); return l },
		func() []int { _, l, _ := Half(s, sizes); return l },
		func() []int { n, _ := Place(geo(4), s, sizes, 6, 2); return []int{n} },
		func() []int { a, _ := Next(s); return []int{a.Version} },
	}
	for i, call := range calls {
		l := call()
		want := text(l)
		if len(l) == 0 {
			t.Errorf("call %d tells nothing: it says little", i)
		}
		for _, other := range calls {
			m := other()
			for k := range m[:cap(m)] {
				m[:cap(m)][k] = -777
			}
		}
		if text(l) != want {
			t.Errorf("call %d: its answer shares memory with another", i)
		}
		if m := call(); text(m) != want {
			t.Errorf("call %d: another answer the second time", i)
		}
		if all() != ahead {
			t.Errorf("call %d: what was handed in is changed", i)
		}
	}
}
