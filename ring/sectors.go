package ring

import (
	"icehouse/api"
	"icehouse/dev"
)

// superblocks that a disk has, ahead of the ring.
const superblocks = 2

// ringSector: that of a place; places behind the last one go round.
func ringSector(g api.Geometry, place int) int { return superblocks + place%g.Ring }

// areaSector: the one with this index of an area.
func areaSector(g api.Geometry, area, index int) int {
	return superblocks + g.Ring + area*g.Area + index
}

// areaBytes: so many has an area.
func areaBytes(g api.Geometry) int { return g.Area * api.Sector }

// read a sector of devices that may be. None is asked for that there is not, so nothing is refused.
func read(g api.Geometry, d api.Devices, at int) []byte {
	b, _ := dev.Get(g, d, at)
	return b
}

// piecesOf bytes: how many, of this size each, but the last one, which may be shorter.
func piecesOf(bytes, size int) int { return (bytes + size - 1) / size }

// piece of bytes, the one with this index.
func piece(b []byte, index, size int) []byte {
	return b[index*size : min((index+1)*size, len(b))]
}
