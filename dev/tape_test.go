package dev

import (
	"testing"

	"icehouse/api"
)

// TestAppend: P1.8: bytes come behind others, or on a volume that is begun; none of them is synced.
func TestAppend(t *testing.T) {
	g := small()
	d := used(t)
	for _, c := range []struct {
		v, n int
	}{
		{0, 0}, {0, 1}, {0, api.MinVolume - 8}, {1, 0}, {1, 1}, {1, api.MinVolume},
	} {
		w := twin(d)
		if c.v == 1 {
			w.Volumes = append(w.Volumes, api.Volume{})
		}
		w.Volumes[c.v].Data = append(w.Volumes[c.v].Data, text(c.n)...)
		got, e := Append(g, d, c.v, text(c.n))
		want(t, "Append", got, e, w)
	}
}

// TestAppendRefuses: P1.8, each error, and which one is told of several.
func TestAppendRefuses(t *testing.T) {
	g := small()
	d := used(t)
	gone := used(t)
	gone.Volumes[0] = api.Volume{Gone: true}
	two := used(t)
	two.Volumes = append(two.Volumes, api.Volume{})
	for _, c := range []struct {
		name string
		d    api.Devices
		v, n int
		want api.Errno
	}{
		{"below 0", d, -1, 1, api.ErrNone},
		{"far below 0", d, least, 1, api.ErrNone},
		{"behind the next one", newDevices(t, g), 1, 1, api.ErrNone},
		{"far away", d, huge, 1, api.ErrNone},
		{"behind all that may be", two, 2, 1, api.ErrNone},
		{"to one that is gone", gone, 0, 1, api.ErrNone},
		{"nothing to one that is gone", gone, 0, 0, api.ErrNone},
		{"one byte too much", d, 0, api.MinVolume - 7, api.ErrFull},
		{"too much for a new one", d, 1, api.MinVolume + 1, api.ErrFull},
		{"too much to one that is gone", gone, 0, api.MinVolume + 1, api.ErrNone},
		{"too much to none", two, 2, api.MinVolume + 1, api.ErrNone},
	} {
		got, e := Append(g, c.d, c.v, text(c.n))
		refuses(t, "Append "+c.name, got, e, c.want)
	}
	if got, e := Append(g, gone, 1, text(1)); e != api.OK || len(got.Volumes) != 2 {
		t.Errorf("a volume behind one that is gone: %v, %v", got.Volumes, e)
	}
}

// TestMark: P1.9: all bytes of all volumes are synced; nothing else changes.
func TestMark(t *testing.T) {
	g := small()
	d := used(t)
	d.Volumes = append(d.Volumes, api.Volume{Data: text(5)})
	w := twin(d)
	w.Volumes[0].Synced, w.Volumes[1].Synced = 8, 5
	got, e := Mark(g, d)
	want(t, "Mark", got, e, w)
	d.Volumes[0] = api.Volume{Gone: true}
	w.Volumes[0] = api.Volume{Gone: true}
	got, e = Mark(g, d)
	want(t, "Mark, with one that is gone", got, e, w)
	fresh := newDevices(t, g)
	got, e = Mark(g, fresh)
	want(t, "Mark of no volumes", got, e, fresh)
}

// TestFetch: P1.10: bytes that are synced and others, the edges of a volume, and what it has not.
func TestFetch(t *testing.T) {
	g := small()
	d := used(t)
	for _, c := range []struct {
		at, n int
		want  string
	}{
		{0, 8, "safe-end"}, {0, 0, ""}, {0, 1, "s"}, {2, 4, "fe-e"}, {7, 1, "d"}, {8, 0, ""},
	} {
		if b, e := Fetch(g, d, 0, c.at, c.n); e != api.OK || string(b) != c.want {
			t.Errorf("Fetch(%d, %d): %q, %v, want %q", c.at, c.n, b, e, c.want)
		}
	}
	for _, c := range []struct {
		v, at, n int
		want     api.Errno
	}{
		{0, -1, 1, api.ErrRange}, {0, 0, -1, api.ErrRange}, {0, 0, 9, api.ErrRange}, {0, 8, 1, api.ErrRange},
		{0, 9, 0, api.ErrRange}, {0, 9, -1, api.ErrRange}, {0, 1, huge, api.ErrRange}, {0, huge, 1, api.ErrRange},
		{0, huge, huge, api.ErrRange}, {0, least, least, api.ErrRange}, {0, -1, 0, api.ErrRange},
		{1, 0, 0, api.ErrNone}, {-1, 0, 0, api.ErrNone}, {2, 0, 0, api.ErrNone}, {huge, -1, -1, api.ErrNone}, {1, -1, -1, api.ErrNone},
	} {
		b, e := Fetch(g, d, c.v, c.at, c.n)
		refusesBytes(t, "Fetch", b, e, c.want)
	}
	d.Volumes[0] = api.Volume{Gone: true}
	b, e := Fetch(g, d, 0, 0, 0)
	refusesBytes(t, "Fetch from one that is gone", b, e, api.ErrNone)
}

// TestTake: P1.11: the volume is gone for good, and the others stay.
func TestTake(t *testing.T) {
	g := small()
	d := used(t)
	d.Volumes = append(d.Volumes, api.Volume{Data: text(5), Synced: 2})
	w := twin(d)
	w.Volumes[0] = api.Volume{Gone: true}
	got, e := Take(g, d, 0)
	want(t, "Take", got, e, w)
	for _, v := range []int{0, -1, 2, least, huge} {
		again, e := Take(g, w, v)
		refuses(t, "Take", again, e, api.ErrNone)
	}
	none, e := Take(g, used(t), 1)
	refuses(t, "Take the next one", none, e, api.ErrNone)
	w.Volumes[1] = api.Volume{Gone: true}
	got, e = Take(g, got, 1)
	want(t, "Take the other one", got, e, w)
}
