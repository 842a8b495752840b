package tier

import (
	"slices"

	"icehouse/api"
	"icehouse/piece"
	"icehouse/state"
)

// Live bytes of each volume.
func Live(s api.State) ([]int, api.Errno) {
	if e := state.Check(s); e != api.OK {
		return nil, e
	}
	l := make([]int, api.MaxVolumes)
	for _, v := range s.Versions {
		if onTape(v) {
			l[v.Volume] += piece.Size(v.Size)
		}
	}
	return l, api.OK
}

// Half: the first volume with something on it, of which not more than half lives, and the versions there; sizes: how many bytes each one has.
func Half(s api.State, sizes []int) (int, []int, api.Errno) {
	live, e := Live(s)
	if e != api.OK {
		return 0, nil, e
	}
	if !sizesMayBe(sizes, api.MaxVolumes) {
		return 0, nil, api.ErrRange
	}
	for n, size := range sizes {
		if size > 0 && !isGone(s, n) && 2*live[n] <= size {
			return n, ids(s, func(v api.Version) bool { return onTape(v) && v.Volume == n }), api.OK
		}
	}
	return 0, nil, api.ErrIdle
}

// Place for a piece of so many bytes: the last volume, if there is room, and it is not one that is given up, or the one that is left out; else a new one.
func Place(g api.Geometry, s api.State, sizes []int, size, without int) (int, api.Errno) {
	if e := state.Check(s); e != api.OK {
		return 0, e
	}
	if g.Volumes > api.MaxVolumes || !sizesMayBe(sizes, g.Volumes) || !sizeMayBe(size) {
		return 0, api.ErrRange
	}
	many := len(sizes)
	if last := many - 1; last >= 0 && last != without && !isGone(s, last) && sizes[last]+size <= g.Volume {
		return last, api.OK
	}
	if many < g.Volumes && size <= g.Volume {
		return many, api.OK
	}
	return 0, api.ErrFull
}

// onTape: a copy on disk, too, or none.
func onTape(v api.Version) bool { return v.Tier == api.Cold || v.Tier == api.Warm }

// isGone: was a volume given up?
func isGone(s api.State, n int) bool { return slices.Contains(s.Gone, n) }

// sizesMayBe: of so many volumes at most.
func sizesMayBe(l []int, most int) bool {
	// How many there are is asked first: a list that is too long is not walked.
	return len(l) <= most && !slices.ContainsFunc(l, func(n int) bool { return !sizeMayBe(n) })
}

// sizeMayBe: may there be so many bytes on a volume?
func sizeMayBe(n int) bool { return n >= 0 && n <= api.MaxVolume }
