package tier

import (
	"slices"
	"testing"

	"icehouse/api"
)

// TestLive: P7.4.
func TestLive(t *testing.T) {
	many := slices.Repeat([]int{api.MaxBody}, api.MaxLive)
	for _, c := range []struct {
		what string
		s    api.State
		want []int
	}{
		{"nothing", api.State{Next: 1}, []int{0, 0, 0, 0, 0, 0, 0, 0}},
		{"all kinds", mixed(), []int{0, 64 + 8 + 9 + 18, 65 + 600 + 12, 0, 0, 0, 0, 1 + 6}},
		{"an empty one", onVolume(0, 0), []int{6, 0, 0, 0, 0, 0, 0, 0}},
		{"the last volume", onVolume(7, 5, 10), []int{0, 0, 0, 0, 0, 0, 0, 27}},
		{"more than a volume has", onVolume(4, many...), []int{0, 0, 0, 0, 40 * 606, 0, 0, 0}},
		// Such ones have the Volume 0, but are not there.
		{"a hot one", ruled(0, none(), api.Version{Key: "k", Size: 9, Tier: api.Hot, Sectors: []int{1}}), zeros(8)},
		{"a marker", ruled(0, none(), api.Version{Key: "k", Marker: true}), zeros(8)},
	} {
		l, e := Live(goodState(t, c.s))
		tells(t, "Live of "+c.what, l, e, c.want...)
	}
}

// TestHalf: P7.5: which volume is told, and which versions.
func TestHalf(t *testing.T) {
	gone := api.State{Next: 1, Gone: []int{0, 2}}
	two := onVolume(1, 20, 24) // 56 bytes of it live
	hot := ruled(0, none(), api.Version{Key: "k", Size: 9, Tier: api.Hot, Sectors: []int{1}})
	for _, c := range []struct {
		what  string
		s     api.State
		sizes []int
		want  int
		ids   []int
	}{
		{"nothing lives", api.State{Next: 1}, []int{1}, 0, nil},
		{"none on the first one", api.State{Next: 1}, []int{0, 5, 5}, 1, nil},
		{"the last one of all", api.State{Next: 1}, []int{0, 0, 0, 0, 0, 0, 0, api.MaxVolume}, 7, nil},
		{"the first one is gone", gone, []int{5, 5}, 1, nil},
		{"all ahead are gone, or empty", gone, []int{5, 0, 5, 1}, 3, nil},
		{"half lives", two, []int{0, 112}, 1, []int{1, 2}},
		{"less than half lives", two, []int{0, 113}, 1, []int{1, 2}},
		{"much less", two, []int{0, api.MaxVolume}, 1, []int{1, 2}},
		{"more than half of the first one", two, []int{0, 111, 3}, 2, nil},
		{"all kinds, the first that is old", mixed(), []int{9, 197, 1400}, 0, nil},
		{"all kinds, a volume with warm ones", mixed(), []int{0, 198, 1400}, 1, []int{5, 15, 17}},
		{"all kinds, more than half of that", mixed(), []int{0, 197, 1354}, 2, []int{3, 7}},
		{"all kinds, an empty one behind", mixed(), []int{0, 197, 1353, 4, 4}, 4, nil},
		{"all kinds, the last one", mixed(), []int{0, 0, 0, 9, 0, 9, 0, 14}, 7, []int{12}},
		{"a hot one lives on no volume", hot, []int{1}, 0, nil},
	} {
		n, l, e := Half(goodState(t, c.s), c.sizes)
		if n != c.want || e != api.OK || !slices.Equal(l, c.ids) {
			t.Errorf("%s: %d, %v, %v, want %d, %v", c.what, n, l, e, c.want, c.ids)
		}
	}
}

// TestHalfRefused: P7.5.
func TestHalfRefused(t *testing.T) {
	two := onVolume(1, 20, 24)
	for _, c := range []struct {
		what  string
		s     api.State
		sizes []int
		want  api.Errno
	}{
		{"no sizes", two, nil, api.ErrIdle},
		{"volumes without bytes", two, zeros(8), api.ErrIdle},
		{"more than half lives", two, []int{0, 111}, api.ErrIdle},
		{"more lives than there is", two, []int{0, 1}, api.ErrIdle},
		{"its size is not told", two, []int{0}, api.ErrIdle},
		{"all are gone", api.State{Next: 1, Gone: []int{0, 1}}, []int{9, 9}, api.ErrIdle},
		{"more than may be", two, zeros(9), api.ErrRange},
		{"far more", two, zeros(100000), api.ErrRange},
		{"a size below 0", two, []int{-1}, api.ErrRange},
		{"a size below 0 behind one that would do", two, []int{9, 0, -1}, api.ErrRange},
		{"a size far below 0", two, []int{least}, api.ErrRange},
		{"a size above all", two, []int{0, api.MaxVolume + 1}, api.ErrRange},
		{"a size far above", two, []int{huge, 9}, api.ErrRange},
	} {
		if n, l, e := Half(goodState(t, c.s), c.sizes); n != 0 || len(l) != 0 || e != c.want {
			t.Errorf("%s: %d, %v, %v, want %v", c.what, n, l, e, c.want)
		}
	}
}

// place: what Place is asked, and its answer.
type place struct {
	what          string
	g             api.Geometry
	gone          []int
	sizes         []int
	size, without int
	want          int
	e             api.Errno
}

// asked: each of these by itself.
func asked(t *testing.T, l []place) {
	t.Helper()
	for _, c := range l {
		s := goodState(t, api.State{Next: 1, Gone: c.gone})
		if n, e := Place(c.g, s, c.sizes, c.size, c.without); n != c.want || e != c.e {
			t.Errorf("%s: %d, %v, want %d, %v", c.what, n, e, c.want, c.e)
		}
	}
}

// TestPlace: P7.6: the last volume, or a new one.
func TestPlace(t *testing.T) {
	asked(t, []place{
		{"the first one", geo(1), nil, nil, 6, -1, 0, api.OK},
		{"the first one, whole", geo(1), nil, nil, 400, -1, 0, api.OK},
		{"too much for a new one", geo(1), nil, nil, 401, -1, 0, api.ErrFull},
		{"room on the last one", geo(3), nil, []int{100}, 300, -1, 0, api.OK},
		{"no room there", geo(3), nil, []int{100}, 301, -1, 1, api.OK},
		{"no room there, nor on any", geo(3), nil, []int{100}, 401, -1, 0, api.ErrFull},
		{"no room there, and no new one", geo(1), nil, []int{100}, 301, -1, 0, api.ErrFull},
		{"one ahead of the last has room", geo(3), nil, []int{0, 0, 400}, 1, -1, 0, api.ErrFull},
		{"one ahead of the last has room, and there may be more", geo(4), nil, []int{0, 0, 400}, 1, -1, 3, api.OK},
		{"the last one of all", geo(3), nil, []int{400, 400, 9}, 6, -1, 2, api.OK},
		{"nothing more on a full one", geo(1), nil, []int{400}, 0, -1, 0, api.OK},
		{"a volume with more than that", geo(2), nil, []int{401}, 0, -1, 1, api.OK},
		{"the last one is left out", geo(3), nil, []int{9, 9}, 6, 1, 2, api.OK},
		{"the last one is left out, and no new one", geo(2), nil, []int{9, 9}, 6, 1, 0, api.ErrFull},
		{"one ahead is left out", geo(2), nil, []int{9, 9}, 6, 0, 1, api.OK},
		{"one behind is left out", geo(3), nil, []int{9, 9}, 6, 2, 1, api.OK},
		{"far ones are left out", geo(3), nil, []int{9}, 6, huge, 0, api.OK},
		{"far ones below are left out", geo(3), nil, []int{9}, 6, least, 0, api.OK},
		{"the last one is gone", geo(3), []int{1}, []int{9, 0}, 6, -1, 2, api.OK},
		{"the last one is gone, and no new one", geo(2), []int{1}, []int{9, 0}, 6, -1, 0, api.ErrFull},
		{"one ahead is gone", geo(2), []int{0}, []int{0, 9}, 6, -1, 1, api.OK},
		// Of a new one the words say neither that it is not gone, nor that it is not left out.
		{"the new one is left out", geo(3), nil, []int{400}, 6, 1, 1, api.OK},
		{"the new one is gone", geo(3), []int{1}, []int{400}, 6, -1, 1, api.OK},
		{"as many as may be", geo(8), nil, zeros(7), 400, 6, 7, api.OK},
		{"a volume of any size", api.Geometry{Volume: huge, Volumes: 1}, nil, []int{api.MaxVolume}, api.MaxVolume, -1, 0, api.OK},
		{"a volume of no size", api.Geometry{Volume: 0, Volumes: 2}, nil, []int{0}, 0, -1, 0, api.OK},
		{"a volume below that", api.Geometry{Volume: least, Volumes: 2}, nil, []int{0}, 0, -1, 0, api.ErrFull},
		{"no volumes", geo(0), nil, nil, 6, -1, 0, api.ErrFull},
	})
}

// TestPlaceRefused: P7.6: numbers outside their bounds, ahead of a volume that there is not.
func TestPlaceRefused(t *testing.T) {
	l := []place{
		{what: "more sizes than volumes", g: geo(1), sizes: []int{9, 9}},
		{what: "more sizes than no volumes", g: geo(0), sizes: []int{9}},
		{what: "more sizes than volumes below 0", g: geo(-1)},
		{what: "volumes far below 0", g: geo(least)},
		{what: "more volumes than may be", g: geo(9), sizes: []int{9}},
		{what: "far more", g: geo(huge)},
		{what: "more sizes than may be", g: geo(9), sizes: zeros(9)},
		{what: "far more sizes", g: geo(8), sizes: zeros(100000)},
		{what: "a size below 0", g: geo(3), sizes: []int{-1, 9}},
		{what: "a size far below 0", g: geo(3), sizes: []int{least}},
		{what: "a size above all", g: geo(3), sizes: []int{api.MaxVolume + 1, 9}},
		{what: "a size far above", g: geo(3), sizes: []int{9, huge}},
		{what: "less than nothing more", g: geo(3), sizes: []int{9}, size: -1},
		{what: "far less", g: geo(3), sizes: []int{9}, size: least},
		{what: "more bytes than may be", g: geo(3), sizes: []int{9}, size: api.MaxVolume + 1},
		{what: "far more bytes", g: geo(3), sizes: []int{9}, size: huge},
		{what: "more bytes than may be, and no room", g: geo(0), size: api.MaxVolume + 1},
		{what: "a size below 0, and no room", g: geo(1), sizes: []int{-1}, size: 401},
	}
	for i := range l {
		l[i].without, l[i].e = -1, api.ErrRange
	}
	asked(t, l)
}
