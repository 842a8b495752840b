package store

import (
	"icehouse/api"
	"icehouse/hot"
	"icehouse/state"
)

// put bytes under a key, as a new version; further records go ahead of it. Its Id is told.
func (h *house) put(name, key string, b []byte, ahead ...api.Record) (int, api.Errno) {
	in, e := h.bucket(name)
	if e != api.OK {
		return 0, e
	}
	if e := state.CheckKey(key); e != api.OK {
		return 0, e
	}
	if len(b) > api.MaxBody {
		return 0, api.ErrSize
	}
	spare, e := h.spare(len(b))
	if e != api.OK {
		return 0, e
	}
	v := api.Version{
		Id:      h.s.Next,
		Bucket:  name,
		Key:     key,
		Null:    in.Mode != api.Enabled,
		Size:    len(b),
		Time:    h.s.Clock,
		Tier:    api.Hot,
		Sectors: spare,
	}
	return v.Id, h.store(b, spare, append(ahead, api.Record{Kind: api.AddVersion, Version: v})...)
}

// get the body of a version; of one that is cold what else is known.
func (h *house) get(a api.Act) api.Answer {
	v, e := h.chosen(a)
	if e != api.OK {
		return api.Answer{Code: e}
	}
	out := api.Answer{N: v.Id, Tier: v.Tier, Time: v.Time}
	if v.Tier == api.Warm {
		out.Time = v.Until
	}
	if v.Tier == api.Cold || v.Tier == api.Warm && h.s.Clock >= v.Until {
		out.Code = api.ErrCold
		return out
	}
	b, e := hot.Read(h.g, h.d, v.Sectors, v.Size)
	if e != api.OK {
		return api.Answer{Code: e}
	}
	out.Body = string(b)
	return out
}

// delete a key: its one version goes, or a marker says that it is deleted. The Id of either is told.
func (h *house) delete(a api.Act) (int, api.Errno) {
	in, e := h.bucket(a.Name)
	if e != api.OK {
		return 0, e
	}
	if e := state.CheckKey(a.Key); e != api.OK {
		return 0, e
	}
	if in.Mode == api.Plain {
		return h.erase(api.Act{Name: a.Name, Key: a.Key})
	}
	v := api.Version{
		Id:     h.s.Next,
		Bucket: a.Name,
		Key:    a.Key,
		Null:   in.Mode == api.Suspended,
		Marker: true,
		Time:   h.s.Clock,
	}
	return v.Id, h.record(api.Record{Kind: api.AddVersion, Version: v})
}

// erase a version, be it a marker.
func (h *house) erase(a api.Act) (int, api.Errno) {
	v, e := h.named(a)
	if e != api.OK {
		return 0, e
	}
	return v.Id, h.record(api.Record{Kind: api.DropOne, Id: v.Id})
}
