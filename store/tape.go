package store

import (
	"icehouse/api"
	"icehouse/dev"
	"icehouse/hot"
	"icehouse/piece"
	"icehouse/things"
	"icehouse/tier"
)

// archive a version, now.
func (h *house) archive(a api.Act) (int, api.Errno) {
	v, e := h.chosen(a)
	if e != api.OK {
		return 0, e
	}
	if v.Tier != api.Hot {
		return 0, api.ErrCold
	}
	return h.pack(v)
}

// packOld: versions that rules say are to be frozen.
func (h *house) packOld() (int, api.Errno) {
	ids, e := tier.Freeze(h.s)
	if e != api.OK {
		return 0, e
	}
	if len(ids) == 0 {
		return 0, api.ErrIdle
	}
	return h.pack(h.withId(ids...)...)
}

// pack versions, at least one, that are on disk: as many of them as have room on a volume. How many is told.
func (h *house) pack(l ...api.Version) (int, api.Errno) {
	n, e := tier.Place(h.g, h.s, h.sizes(), piece.Size(l[0].Size), nowhere)
	if e != api.OK {
		return 0, e
	}
	var taken []moving
	end := h.end(n)
	for _, v := range l {
		if end += piece.Size(v.Size); end > h.g.Volume {
			break
		}
		b, e := hot.Read(h.g, h.d, v.Sectors, v.Size)
		if e != api.OK {
			return 0, e
		}
		taken = append(taken, moving{v.Id, b})
	}
	return len(taken), h.move(n, taken)
}

// compact a volume that is at most half alive: what lives there is moved, and the volume is taken away. How many versions were moved is told.
func (h *house) compact() (int, api.Errno) {
	from, ids, e := tier.Half(h.s, h.sizes())
	if e != api.OK {
		return 0, e
	}
	giveUp := api.Record{Kind: api.GiveUp, Volume: from}
	if len(ids) == 0 {
		e = h.record(giveUp)
	} else {
		e = h.moveAll(from, h.withId(ids...), giveUp)
	}
	if e != api.OK {
		return 0, e
	}
	return len(ids), h.became(things.Do(h.g, h.d, things.Take(from)))
}

// moveAll versions that have a volume to another one, with further records behind it.
func (h *house) moveAll(from int, l []api.Version, more ...api.Record) api.Errno {
	var taken []moving
	size := 0
	for _, v := range l {
		b, e := hot.Fetch(h.g, h.d, v.Volume, piece.Of(v))
		if e != api.OK {
			return e
		}
		taken = append(taken, moving{v.Id, b})
		size += piece.Size(v.Size)
	}
	to, e := tier.Place(h.g, h.s, h.sizes(), size, from)
	if e != api.OK {
		return e
	}
	return h.move(to, taken, more...)
}

// moving: a version that goes to tape, and its bytes.
type moving struct {
	id   int
	body []byte
}

// move versions to the end of a volume, with further records behind it.
func (h *house) move(to int, l []moving, more ...api.Record) api.Errno {
	var ids []int
	var bodies [][]byte
	for _, m := range l {
		ids, bodies = append(ids, m.id), append(bodies, m.body)
	}
	b, pieces, e := hot.Pack(h.end(to), ids, bodies)
	if e != api.OK {
		return e
	}
	// The tape is safe ahead of the records that tell of it.
	if e := h.became(things.Do(h.g, h.d, things.Append(to, b), dev.Mark)); e != api.OK {
		return e
	}
	var freezes []api.Record
	for _, p := range pieces {
		freezes = append(freezes, api.Record{Kind: api.Freeze, Id: p.Id, Volume: to, At: p.At})
	}
	return h.record(append(freezes, more...)...)
}

// restore: ask for a version that is cold.
func (h *house) restore(a api.Act) (int, api.Errno) {
	v, e := h.chosen(a)
	if e != api.OK {
		return 0, e
	}
	ask := api.Ask{Version: v.Id, Days: a.M, Class: a.L}
	return v.Id, h.record(api.Record{Kind: api.AddAsk, Ask: ask})
}

// serve the next one that is asked for: a copy of it is on disk for its days.
func (h *house) serve() (int, api.Errno) {
	ask, e := tier.Next(h.s)
	if e != api.OK {
		return 0, e
	}
	v := h.withId(ask.Version)[0]
	b, e := hot.Fetch(h.g, h.d, v.Volume, piece.Of(v))
	if e != api.OK {
		return 0, e
	}
	spare, e := h.spare(len(b))
	if e != api.OK {
		return 0, e
	}
	return v.Id, h.store(b, spare, api.Record{Kind: api.Thaw, Id: v.Id, Sectors: spare, N: h.s.Clock + ask.Days})
}

// sweep away copies whose time is over, and versions that rules say are to be dropped. How many records that takes is told.
func (h *house) sweep() (int, api.Errno) {
	chill, e := tier.Chill(h.s)
	if e != api.OK {
		return 0, e
	}
	drop, e := tier.Drop(h.s)
	if e != api.OK {
		return 0, e
	}
	var l []api.Record
	for _, id := range chill {
		l = append(l, api.Record{Kind: api.Chill, Id: id})
	}
	for _, id := range drop {
		l = append(l, api.Record{Kind: api.DropOne, Id: id})
	}
	if len(l) == 0 {
		return 0, api.ErrIdle
	}
	return len(l), h.record(l...)
}
