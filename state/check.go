package state

import "icehouse/api"

// Check a state.
func Check(s api.State) api.Errno {
	if !within(s.Next, 1, api.MaxNumber) || !within(s.Clock, 0, api.MaxTime) {
		return api.ErrState
	}
	// How many there are is asked ahead of each one: lists that are too long are not walked.
	if !goneMayBe(s.Gone) || !bucketsMayBe(s.Buckets) || !versionsMayBe(s) || !uploadsMayBe(s) || !queueMayBe(s) {
		return api.ErrState
	}
	if !sectorsMayBe(s) {
		return api.ErrState
	}
	return api.OK
}

// goneMayBe: volumes that rise.
func goneMayBe(l []int) bool {
	return len(l) <= api.MaxVolumes &&
		rise(l, func(a, b int) bool { return a < b }) &&
		every(l, func(v int) bool { return within(v, 0, api.MaxVolumes-1) })
}

// bucketsMayBe: each by itself, and by their names.
func bucketsMayBe(l []api.Bucket) bool {
	return len(l) <= api.MaxBuckets &&
		rise(l, func(a, b api.Bucket) bool { return a.Name < b.Name }) &&
		every(l, func(b api.Bucket) bool {
			return CheckName(b.Name) == api.OK && CheckRule(b.Rule) == api.OK && modeMayBe(b.Mode)
		})
}

// modeMayBe: is there such a mode?
func modeMayBe(n int) bool { return within(n, api.Plain, api.Suspended) }

// versionsMayBe: each by itself, by their Ids, and of each key one without a number at most.
func versionsMayBe(s api.State) bool {
	return len(s.Versions) <= api.MaxLive &&
		rise(s.Versions, func(a, b api.Version) bool { return a.Id < b.Id }) &&
		every(s.Versions, func(v api.Version) bool { return versionMayBe(s, v) }) &&
		nullsMayBe(s.Versions)
}

// versionMayBe: one by itself, in a state whose buckets may be.
func versionMayBe(s api.State, v api.Version) bool {
	if !namesMayBe(s, v.Id, v.Bucket, v.Key) || !within(v.Time, 0, s.Clock) {
		return false
	}
	if v.Marker {
		return v.Size == 0 && v.Tier == 0 && offDisk(v) && offTape(v) && v.Until == 0
	}
	if !within(v.Size, 0, api.MaxBody) {
		return false
	}
	switch v.Tier {
	case api.Hot:
		return rightMany(v.Sectors, v.Size) && offTape(v) && v.Until == 0
	case api.Cold:
		return offDisk(v) && onTape(s, v) && v.Until == 0
	case api.Warm:
		return rightMany(v.Sectors, v.Size) && onTape(s, v) && within(v.Until, 0, api.MaxTime+api.MaxDays)
	}
	return false
}

// namesMayBe: the Id, the bucket and the key of a version or an upload.
func namesMayBe(s api.State, id int, bucket, key string) bool {
	return within(id, 1, s.Next-1) && findBucket(s, bucket) >= 0 && CheckKey(key) == api.OK
}

// offDisk: it has no sectors.
func offDisk(v api.Version) bool { return len(v.Sectors) == 0 }

// offTape: it stands on no volume.
func offTape(v api.Version) bool { return v.Volume == 0 && v.At == 0 }

// onTape: it stands on a volume that is there.
func onTape(s api.State, v api.Version) bool {
	return within(v.Volume, 0, api.MaxVolumes-1) && findGone(s, v.Volume) < 0 && within(v.At, 0, api.MaxVolume)
}

// rightMany: are these as many sectors as so many bytes need?
func rightMany(sectors []int, size int) bool { return len(sectors) == Sectors(size) }

// owner of a version: a key of a bucket.
type owner struct{ bucket, key string }

// nullsMayBe: of each bucket and key one version without a number at most.
func nullsMayBe(l []api.Version) bool {
	seen := map[owner]int{}
	return every(l, func(v api.Version) bool {
		if !v.Null {
			return true
		}
		o := owner{v.Bucket, v.Key}
		seen[o]++
		return seen[o] == 1
	})
}

// uploadsMayBe: each by itself, and by their Ids.
func uploadsMayBe(s api.State) bool {
	return len(s.Uploads) <= api.MaxUploads &&
		rise(s.Uploads, func(a, b api.Upload) bool { return a.Id < b.Id }) &&
		every(s.Uploads, func(u api.Upload) bool {
			return namesMayBe(s, u.Id, u.Bucket, u.Key) && partsMayBe(u.Parts)
		})
}

// partsMayBe: each by itself, and by their N.
func partsMayBe(l []api.Part) bool {
	return len(l) <= api.MaxParts &&
		rise(l, func(a, b api.Part) bool { return a.N < b.N }) &&
		every(l, func(p api.Part) bool {
			return within(p.N, 1, api.MaxParts) && within(p.Size, 0, api.MaxBody) && rightMany(p.Sectors, p.Size)
		})
}

// queueMayBe: each of a version of its own that is cold.
func queueMayBe(s api.State) bool {
	if len(s.Queue) > api.MaxQueue {
		return false
	}
	asks := map[int]int{}
	return every(s.Queue, func(a api.Ask) bool {
		asks[a.Version]++
		i := findVersion(s, a.Version)
		return i >= 0 && s.Versions[i].Tier == api.Cold && asks[a.Version] == 1 && askMayBe(a)
	})
}

// askMayBe: its numbers, whatever the version is.
func askMayBe(a api.Ask) bool { return within(a.Days, 1, api.MaxDays) && within(a.Class, 0, 2) }

// sectorsMayBe: all that versions and parts have are there, and no two have one.
func sectorsMayBe(s api.State) bool {
	takers := takersOf(s)
	return everySector(s, func(n int) bool { return within(n, 0, api.MaxHot-1) && takers[n] == 1 })
}

// takersOf sectors: how often each is taken.
func takersOf(s api.State) map[int]int {
	takers := map[int]int{}
	everySector(s, func(n int) bool {
		takers[n]++
		return true
	})
	return takers
}

// everySector: does it hold for all sectors of all versions and parts?
func everySector(s api.State, holds func(n int) bool) bool {
	return every(s.Versions, func(v api.Version) bool { return every(v.Sectors, holds) }) &&
		every(s.Uploads, func(u api.Upload) bool {
			return every(u.Parts, func(p api.Part) bool { return every(p.Sectors, holds) })
		})
}
