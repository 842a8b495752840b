package state

import "icehouse/api"

// Copy of a state, in memory of its own.
func Copy(s api.State) api.State {
	s.Buckets = copyList(s.Buckets)
	s.Versions = copyEach(s.Versions, copyVersion)
	s.Uploads = copyEach(s.Uploads, copyUpload)
	s.Queue = copyList(s.Queue)
	s.Gone = copyList(s.Gone)
	return s
}

// copyVersion, in memory of its own.
func copyVersion(v api.Version) api.Version {
	v.Sectors = copyList(v.Sectors)
	return v
}

// copyUpload, in memory of its own.
func copyUpload(u api.Upload) api.Upload {
	u.Parts = copyEach(u.Parts, copyPart)
	return u
}

// copyPart, in memory of its own.
func copyPart(p api.Part) api.Part {
	p.Sectors = copyList(p.Sectors)
	return p
}

// copyList in memory of its own; without spare room, so that none is shared.
func copyList[T any](l []T) []T {
	out := make([]T, len(l))
	copy(out, l)
	return out
}

// copyEach of a list that has lists in it.
func copyEach[T any](l []T, copyOne func(x T) T) []T {
	out := make([]T, len(l))
	for i, x := range l {
		out[i] = copyOne(x)
	}
	return out
}
