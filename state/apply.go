package state

import (
	"slices"

	"icehouse/api"
)

// Apply a record to a state.
func Apply(s api.State, r api.Record) (api.State, api.Errno) {
	if e := Check(s); e != api.OK {
		return api.State{}, e
	}
	out := Copy(s)
	if e := change(&out, r); e != api.OK {
		return api.State{}, e
	}
	// What the kinds do not refuse themselves is refused here: a bucket that is not there, sectors that are taken.
	if Check(out) != api.OK {
		return api.State{}, api.ErrForm
	}
	return out, api.OK
}

// change a state that nobody else has, as the record's kind says. What is refused leaves it half changed.
func change(s *api.State, r api.Record) api.Errno {
	switch r.Kind {
	case api.AddBucket:
		return addBucket(s, r.Name)
	case api.SetMode:
		return setMode(s, r.Name, r.N)
	case api.SetRule:
		return setRule(s, r.Name, r.Rule)
	case api.AddVersion:
		return addVersion(s, r.Version)
	case api.DropOne:
		return dropOne(s, r.Id)
	case api.Freeze:
		return freeze(s, r.Id, r.Volume, r.At)
	case api.AddAsk:
		return addAsk(s, r.Ask)
	case api.Thaw:
		return thaw(s, r.Id, r.Sectors, r.N)
	case api.Chill:
		return chill(s, r.Id)
	case api.AddUpload:
		return addUpload(s, r.Id, r.Name, r.Key)
	case api.AddPart:
		return addPart(s, r.Id, r.Part)
	case api.DropUpload:
		return dropUpload(s, r.Id)
	case api.Pass:
		return pass(s, r.N)
	case api.GiveUp:
		return giveUp(s, r.Volume)
	}
	return api.ErrKind
}

func addBucket(s *api.State, name string) api.Errno {
	if e := CheckName(name); e != api.OK {
		return e
	}
	if findBucket(*s, name) >= 0 {
		return api.ErrTwice
	}
	if len(s.Buckets) == api.MaxBuckets {
		return api.ErrFull
	}
	b := api.Bucket{Name: name, Mode: api.Plain, Rule: api.Rule{Freeze: -1, Drop: -1}}
	s.Buckets = putAhead(s.Buckets, b, func(c api.Bucket) bool { return c.Name > name })
	return api.OK
}

func setMode(s *api.State, name string, mode int) api.Errno {
	i := findBucket(*s, name)
	if i < 0 {
		return api.ErrNone
	}
	if !modeMayBe(mode) {
		return api.ErrRange
	}
	// A key of a plain bucket has one version: there is no way back to that.
	if mode == api.Plain && s.Buckets[i].Mode != api.Plain {
		return api.ErrState
	}
	s.Buckets[i].Mode = mode
	return api.OK
}

func setRule(s *api.State, name string, r api.Rule) api.Errno {
	i := findBucket(*s, name)
	if i < 0 {
		return api.ErrNone
	}
	if e := CheckRule(r); e != api.OK {
		return e
	}
	s.Buckets[i].Rule = r
	return api.OK
}

// takeNumber: the next one, which must be this.
func takeNumber(s *api.State, id int) api.Errno {
	if id != s.Next || s.Next == api.MaxNumber {
		return api.ErrRange
	}
	s.Next++
	return api.OK
}

func addUpload(s *api.State, id int, bucket, key string) api.Errno {
	if e := takeNumber(s, id); e != api.OK {
		return e
	}
	if len(s.Uploads) == api.MaxUploads {
		return api.ErrFull
	}
	s.Uploads = append(s.Uploads, api.Upload{Id: id, Bucket: bucket, Key: key})
	return api.OK
}

func addPart(s *api.State, id int, p api.Part) api.Errno {
	i := findUpload(*s, id)
	if i < 0 {
		return api.ErrNone
	}
	l := slices.DeleteFunc(s.Uploads[i].Parts, func(q api.Part) bool { return q.N == p.N })
	s.Uploads[i].Parts = putAhead(l, copyPart(p), func(q api.Part) bool { return q.N > p.N })
	return api.OK
}

func dropUpload(s *api.State, id int) api.Errno {
	i := findUpload(*s, id)
	if i < 0 {
		return api.ErrNone
	}
	s.Uploads = slices.Delete(s.Uploads, i, i+1)
	return api.OK
}

func pass(s *api.State, n int) api.Errno {
	// What is left is told by a difference: a sum with a great number would leave the numbers.
	if n < 0 || n > api.MaxTime-s.Clock {
		return api.ErrRange
	}
	s.Clock += n
	return api.OK
}

func giveUp(s *api.State, volume int) api.Errno {
	if findGone(*s, volume) >= 0 {
		return api.ErrTwice
	}
	s.Gone = putAhead(s.Gone, volume, func(v int) bool { return v > volume })
	return api.OK
}
