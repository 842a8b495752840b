package ring

import (
	"icehouse/api"
	"icehouse/number"
	"icehouse/things"
)

// superblock of a journal.
func superblock(j api.Journal) []byte {
	b := number.Append(nil, j.Gen, 4)
	b = number.Append(b, j.Epoch, 4)
	b = number.Append(b, j.Area, 1)
	b = number.Append(b, j.Length, 4)
	b = number.Append(b, j.Start, 2)
	return number.Append(b, j.First, 4)
}

// journalOf a superblock: nothing is in the ring yet.
func journalOf(b []byte) api.Journal {
	j := api.Journal{
		Gen:    number.Of(b[0:4]),
		Epoch:  number.Of(b[4:8]),
		Area:   number.Of(b[8:9]),
		Length: number.Of(b[9:13]),
		Start:  number.Of(b[13:15]),
		First:  number.Of(b[15:19]),
	}
	j.Place, j.Next = j.Start, j.First
	return j
}

// superblockSector: by turns, so that the one before stays whole while the next one is not safe.
func superblockSector(j api.Journal) int { return j.Gen % superblocks }

// putSuperblock of a journal where it belongs.
func putSuperblock(j api.Journal) things.Thing {
	return things.Put(superblockSector(j), superblock(j))
}

// newest journal of those whose superblocks count; false: none does.
func newest(g api.Geometry, d api.Devices) (api.Journal, bool) {
	var best api.Journal
	for at := range superblocks {
		j := journalOf(read(g, d, at))
		if Check(g, j) == api.OK && superblockSector(j) == at && j.Gen > best.Gen {
			best = j
		}
	}
	return best, best.Gen > 0
}
