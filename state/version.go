package state

import (
	"slices"

	"icehouse/api"
)

func addVersion(s *api.State, v api.Version) api.Errno {
	if e := takeNumber(s, v.Id); e != api.OK {
		return e
	}
	// The one whose place it takes goes first: there may be room then.
	if i := findNull(*s, v.Bucket, v.Key); v.Null && i >= 0 {
		drop(s, i)
	}
	if len(s.Versions) == api.MaxLive {
		return api.ErrFull
	}
	s.Versions = append(s.Versions, copyVersion(v))
	return api.OK
}

func dropOne(s *api.State, id int) api.Errno {
	i := findVersion(*s, id)
	if i < 0 {
		return api.ErrNone
	}
	drop(s, i)
	return api.OK
}

// drop the version at a place, and what is asked of it.
func drop(s *api.State, at int) {
	unask(s, s.Versions[at].Id)
	s.Versions = slices.Delete(s.Versions, at, at+1)
}

// unask: nothing is asked of a version any more.
func unask(s *api.State, id int) {
	s.Queue = slices.DeleteFunc(s.Queue, func(a api.Ask) bool { return a.Version == id })
}

// withBody: the version of an Id, to be changed in its place; a marker has no body.
func withBody(s *api.State, id int) (*api.Version, api.Errno) {
	i := findVersion(*s, id)
	if i < 0 {
		return nil, api.ErrNone
	}
	if s.Versions[i].Marker {
		return nil, api.ErrKind
	}
	return &s.Versions[i], api.OK
}

func freeze(s *api.State, id, volume, at int) api.Errno {
	v, e := withBody(s, id)
	if e != api.OK {
		return e
	}
	if v.Tier == api.Hot {
		v.Tier, v.Sectors = api.Cold, nil
	}
	// One that is on tape already was moved there: its tier, and a copy on disk, stay.
	v.Volume, v.At = volume, at
	return api.OK
}

func thaw(s *api.State, id int, sectors []int, until int) api.Errno {
	v, e := withBody(s, id)
	if e != api.OK {
		return e
	}
	if v.Tier != api.Cold {
		return api.ErrWarm
	}
	v.Tier, v.Sectors, v.Until = api.Warm, copyList(sectors), until
	unask(s, id)
	return api.OK
}

func chill(s *api.State, id int) api.Errno {
	v, e := withBody(s, id)
	if e != api.OK {
		return e
	}
	if v.Tier != api.Warm {
		return api.ErrCold
	}
	v.Tier, v.Sectors, v.Until = api.Cold, nil, 0
	return api.OK
}

func addAsk(s *api.State, a api.Ask) api.Errno {
	v, e := withBody(s, a.Version)
	if e != api.OK {
		return e
	}
	if v.Tier != api.Cold {
		return api.ErrWarm
	}
	if findAsk(*s, a.Version) >= 0 {
		return api.ErrWait
	}
	if !askMayBe(a) {
		return api.ErrRange
	}
	if len(s.Queue) == api.MaxQueue {
		return api.ErrFull
	}
	s.Queue = append(s.Queue, a)
	return api.OK
}
