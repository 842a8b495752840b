package store

import (
	"slices"

	"icehouse/api"
)

// find the last version, which is the one with the greatest Id, for which it holds; false: there is none.
func (h *house) find(holds func(v api.Version) bool) (api.Version, bool) {
	for _, v := range slices.Backward(h.s.Versions) {
		if holds(v) {
			return v, true
		}
	}
	return api.Version{}, false
}

// withId: the versions of these Ids, in their order. (All of them are there.)
func (h *house) withId(ids ...int) []api.Version {
	var l []api.Version
	for _, id := range ids {
		v, _ := h.find(func(v api.Version) bool { return v.Id == id })
		l = append(l, v)
	}
	return l
}

// named: the version that an act names by its number, be it a marker; or else the latest one of the key: if that is a marker, the key was deleted, and there is none.
func (h *house) named(a api.Act) (api.Version, api.Errno) {
	// A bucket that there is not has no versions: it needs no question of its own.
	v, there := h.find(func(v api.Version) bool {
		return v.Bucket == a.Name && v.Key == a.Key && (a.N == 0 || v.Id == a.N)
	})
	if !there || v.Marker && a.N == 0 {
		return api.Version{}, api.ErrNone
	}
	return v, api.OK
}

// chosen: the version that an act names, and no marker.
func (h *house) chosen(a api.Act) (api.Version, api.Errno) {
	v, e := h.named(a)
	if e == api.OK && v.Marker {
		return api.Version{}, api.ErrKind
	}
	return v, e
}

// bucket of a name.
func (h *house) bucket(name string) (api.Bucket, api.Errno) {
	for _, b := range h.s.Buckets {
		if b.Name == name {
			return b, api.OK
		}
	}
	return api.Bucket{}, api.ErrNone
}

// upload of an Id.
func (h *house) upload(id int) (api.Upload, api.Errno) {
	for _, u := range h.s.Uploads {
		if u.Id == id {
			return u, api.OK
		}
	}
	return api.Upload{}, api.ErrNone
}
