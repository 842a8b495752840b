package code

import (
	"icehouse/api"
	"icehouse/number"
)

// reader of bytes, from the first one on. The first thing that is wrong stays; what is read behind it means nothing.
type reader struct {
	rest  []byte
	wrong api.Errno
}

// fail: something is wrong, if nothing was before.
func (r *reader) fail(e api.Errno) {
	if r.wrong == api.OK {
		r.wrong = e
	}
}

// end of what is read: what was wrong; nothing may be left.
func (r *reader) end() api.Errno {
	if len(r.rest) > 0 {
		r.fail(api.ErrForm)
	}
	return r.wrong
}

// take so many bytes; none, if there are not so many.
func (r *reader) take(many int) []byte {
	if len(r.rest) < many {
		r.fail(api.ErrShort)
		return nil
	}
	b := r.rest[:many]
	r.rest = r.rest[many:]
	return b
}

// number of so many bytes.
func (r *reader) number(bytes int) int { return number.Of(r.take(bytes)) }

// truth: is something true?
func (r *reader) truth() bool {
	n := r.number(1)
	if n > 1 {
		r.fail(api.ErrForm)
	}
	return n == 1
}

// text, in memory of its own.
func (r *reader) text() string { return string(r.take(r.number(1))) }

// readList: so many as its first byte says, one by one; no more of them when something is wrong.
func readList[T any](r *reader, readOne func() T) []T {
	var l []T
	for many := r.number(1); many > 0 && r.wrong == api.OK; many-- {
		l = append(l, readOne())
	}
	return l
}

// sectors, or volumes: of one byte each.
func (r *reader) sectors() []int {
	return readList(r, func() int { return r.number(1) })
}

// record of the journal.
func (r *reader) record() api.Record {
	out := api.Record{Kind: r.number(1)}
	if !isKind(out.Kind) {
		r.fail(api.ErrKind)
		return out
	}
	eachField(out.Kind, func(field int) { r.field(&out, field) })
	return out
}

// field of a record.
func (r *reader) field(out *api.Record, field int) {
	switch field {
	case hasId:
		out.Id = r.number(3)
	case hasName:
		out.Name = r.text()
	case hasKey:
		out.Key = r.text()
	case hasN:
		out.N = r.number(4)
	case hasRule:
		out.Rule = r.rule()
	case hasVersion:
		out.Version = r.version()
	case hasAsk:
		out.Ask = r.ask()
	case hasPart:
		out.Part = r.part()
	case hasSectors:
		out.Sectors = r.sectors()
	case hasVolume:
		out.Volume = r.number(1)
	case hasAt:
		out.At = r.number(2)
	}
}

// state: what the bytes say, be it one that may be or not.
func (r *reader) state() api.State {
	return api.State{
		Next:     r.number(3),
		Clock:    r.number(4),
		Buckets:  readList(r, func() api.Bucket { return r.bucket() }),
		Versions: readList(r, func() api.Version { return r.version() }),
		Uploads:  readList(r, func() api.Upload { return r.upload() }),
		Queue:    readList(r, func() api.Ask { return r.ask() }),
		Gone:     r.sectors(),
	}
}

// rule: its numbers are written one greater.
func (r *reader) rule() api.Rule {
	return api.Rule{Prefix: r.text(), Freeze: r.number(4) - 1, Drop: r.number(4) - 1}
}

// bucket of a state.
func (r *reader) bucket() api.Bucket {
	return api.Bucket{Name: r.text(), Mode: r.number(1), Rule: r.rule()}
}

// version of a record, or of a state.
func (r *reader) version() api.Version {
	return api.Version{
		Id:      r.number(3),
		Bucket:  r.text(),
		Key:     r.text(),
		Null:    r.truth(),
		Marker:  r.truth(),
		Size:    r.number(2),
		Time:    r.number(4),
		Tier:    r.number(1),
		Sectors: r.sectors(),
		Volume:  r.number(1),
		At:      r.number(2),
		Until:   r.number(4),
	}
}

// upload of a state.
func (r *reader) upload() api.Upload {
	return api.Upload{
		Id:     r.number(3),
		Bucket: r.text(),
		Key:    r.text(),
		Parts:  readList(r, func() api.Part { return r.part() }),
	}
}

// part of a record, or of an upload.
func (r *reader) part() api.Part {
	return api.Part{N: r.number(1), Size: r.number(2), Sectors: r.sectors()}
}

// ask of a record, or of a queue.
func (r *reader) ask() api.Ask {
	return api.Ask{Version: r.number(3), Days: r.number(2), Class: r.number(1)}
}
