package dev

import (
	"bytes"
	"testing"

	"icehouse/api"
)

// TestPut: P1.5: a write comes behind all others, filled up with zeros.
func TestPut(t *testing.T) {
	g := small()
	d := used(t)
	end := len(d.Safe) - 1
	for _, c := range []struct {
		at int
		b  []byte
	}{
		{0, nil}, {0, []byte{}}, {1, []byte("abc")}, {end, text(api.Sector - 1)}, {end, text(api.Sector)},
	} {
		w := twin(d)
		w.Cache = append(w.Cache, api.Write{At: c.at, Data: sector(string(c.b))})
		got, e := Put(g, d, c.at, c.b)
		want(t, "Put", got, e, w)
	}
}

// TestPutRefuses: P1.5, each error, and which one is told of several.
func TestPutRefuses(t *testing.T) {
	g := small()
	d := used(t)
	full := used(t)
	full.Cache = writes(api.MaxWrites)
	end := len(d.Safe)
	for _, c := range []struct {
		name string
		d    api.Devices
		at   int
		n    int
		want api.Errno
	}{
		{"below 0", d, -1, 1, api.ErrRange},
		{"far below 0", d, least, 1, api.ErrRange},
		{"behind the last sector", d, end, 1, api.ErrRange},
		{"far away", d, huge, 1, api.ErrRange},
		{"too much", d, 0, api.Sector + 1, api.ErrSize},
		{"in a full cache", full, 0, 1, api.ErrFull},
		{"nowhere, too much", d, end, api.Sector + 1, api.ErrRange},
		{"too much, in a full cache", full, 0, api.Sector + 1, api.ErrSize},
		{"nowhere, in a full cache", full, -1, 0, api.ErrRange},
	} {
		got, e := Put(g, c.d, c.at, text(c.n))
		refuses(t, "Put "+c.name, got, e, c.want)
	}
	full.Cache = writes(api.MaxWrites - 1)
	if got, e := Put(g, full, 0, nil); e != api.OK || len(got.Cache) != api.MaxWrites {
		t.Errorf("the last write that has room: %v, %d in the cache", e, len(got.Cache))
	}
}

// TestGet: P1.6: the last write counts, and what is safe where none is.
func TestGet(t *testing.T) {
	g := small()
	d := used(t)
	d.Safe[3] = sector("safe")
	d.Cache = append(d.Cache, api.Write{At: len(d.Safe) - 1, Data: sector("end")})
	for _, c := range []struct {
		at   int
		want string
	}{
		{0, "three"}, {1, "one"}, {2, ""}, {3, "safe"}, {len(d.Safe) - 1, "end"},
	} {
		if b, e := Get(g, d, c.at); e != api.OK || !bytes.Equal(b, sector(c.want)) {
			t.Errorf("Get(%d): %q, %v, want %q", c.at, b, e, c.want)
		}
	}
	for _, at := range []int{-1, len(d.Safe), least, huge} {
		b, e := Get(g, d, at)
		refusesBytes(t, "Get", b, e, api.ErrRange)
	}
}

// TestFlush: P1.7: the later one of two writes at a sector is safe; nothing else changes.
func TestFlush(t *testing.T) {
	g := small()
	d := used(t)
	w := twin(d)
	w.Safe[0], w.Safe[1], w.Cache = sector("three"), sector("one"), nil
	got, e := Flush(g, d)
	want(t, "Flush", got, e, w)
	got, e = Flush(g, w)
	want(t, "Flush of nothing", got, e, w)
	w.Cache = writes(api.MaxWrites)
	w.Cache[api.MaxWrites-1].Data = sector("last")
	got, e = Flush(g, w)
	if e != api.OK || len(got.Cache) != 0 || !bytes.Equal(got.Safe[(api.MaxWrites-1)%12], sector("last")) {
		t.Errorf("Flush of a full cache: %v", e)
	}
}
