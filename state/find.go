package state

import (
	"slices"

	"icehouse/api"
)

// within: is a number from the least to the most?
func within(n, least, most int) bool { return n >= least && n <= most }

// every: does it hold for all of a list?
func every[T any](l []T, holds func(x T) bool) bool {
	for _, x := range l {
		if !holds(x) {
			return false
		}
	}
	return true
}

// rise: is each one below the one behind it? Then no two are one, too.
func rise[T any](l []T, below func(a, b T) bool) bool {
	for i := 1; i < len(l); i++ {
		if !below(l[i-1], l[i]) {
			return false
		}
	}
	return true
}

// findLast: the last place in a list for which it holds; -1: there is none.
func findLast[T any](l []T, holds func(x T) bool) int {
	for i := len(l) - 1; i >= 0; i-- {
		if holds(l[i]) {
			return i
		}
	}
	return -1
}

// putAhead: one more stands in a list, ahead of the first one that comes behind it; behind all, if none does.
func putAhead[T any](l []T, x T, behind func(y T) bool) []T {
	at := slices.IndexFunc(l, behind)
	if at < 0 {
		at = len(l)
	}
	return slices.Insert(l, at, x)
}

// findBucket: the place of the bucket of a name; -1: there is none.
func findBucket(s api.State, name string) int {
	return slices.IndexFunc(s.Buckets, func(b api.Bucket) bool { return b.Name == name })
}

// findVersion: the place of the version of an Id; -1: there is none.
func findVersion(s api.State, id int) int {
	return slices.IndexFunc(s.Versions, func(v api.Version) bool { return v.Id == id })
}

// findNull: the place of the version without a number of a key; -1: there is none.
func findNull(s api.State, bucket, key string) int {
	return slices.IndexFunc(s.Versions, func(v api.Version) bool {
		return v.Null && v.Bucket == bucket && v.Key == key
	})
}

// findUpload: the place of the upload of an Id; -1: there is none.
func findUpload(s api.State, id int) int {
	return slices.IndexFunc(s.Uploads, func(u api.Upload) bool { return u.Id == id })
}

// findAsk: the place in the queue of what is asked of a version; -1: there is none.
func findAsk(s api.State, id int) int {
	return slices.IndexFunc(s.Queue, func(a api.Ask) bool { return a.Version == id })
}

// findGone: the place of a volume that was given up; -1: it was not.
func findGone(s api.State, volume int) int {
	return slices.IndexFunc(s.Gone, func(v int) bool { return v == volume })
}
