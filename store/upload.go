package store

import (
	"icehouse/api"
	"icehouse/hot"
)

// dropUpload: the record that an upload is there no more.
func dropUpload(id int) api.Record { return api.Record{Kind: api.DropUpload, Id: id} }

// begin an upload of a key: its Id is told.
func (h *house) begin(a api.Act) (int, api.Errno) {
	id := h.s.Next
	return id, h.record(api.Record{Kind: api.AddUpload, Id: id, Name: a.Name, Key: a.Key})
}

// send a part of an upload.
func (h *house) send(a api.Act) api.Errno {
	u, e := h.upload(a.N)
	if e != api.OK {
		return e
	}
	if len(a.Body) > api.MaxBody {
		return api.ErrSize
	}
	spare, e := h.spare(len(a.Body))
	if e != api.OK {
		return e
	}
	p := api.Part{N: a.M, Size: len(a.Body), Sectors: spare}
	return h.store([]byte(a.Body), spare, api.Record{Kind: api.AddPart, Id: u.Id, Part: p})
}

// complete an upload: its parts become a version of its key, whose Id is told.
func (h *house) complete(a api.Act) (int, api.Errno) {
	u, e := h.upload(a.N)
	if e != api.OK {
		return 0, e
	}
	if len(u.Parts) == 0 {
		return 0, api.ErrForm
	}
	var b []byte
	for _, p := range u.Parts {
		part, e := hot.Read(h.g, h.d, p.Sectors, p.Size)
		if e != api.OK {
			return 0, e
		}
		b = append(b, part...)
	}
	return h.put(u.Bucket, u.Key, b, dropUpload(u.Id))
}
