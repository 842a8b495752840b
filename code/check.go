package code

import "icehouse/api"

// most that a number of so many bytes can be; and how long a text or a list can be, whose length has so many.
func most(bytes int) int { return 1<<(8*bytes) - 1 }

// CheckRecord: can it be written?
func CheckRecord(r api.Record) api.Errno {
	if !isKind(r.Kind) {
		return api.ErrKind
	}
	if !numbersFit(r) {
		return api.ErrRange
	}
	if !textsFit(r.Name, r.Key, r.Rule.Prefix, r.Version.Bucket, r.Version.Key) ||
		!sectorsFit(r.Sectors, r.Version.Sectors, r.Part.Sectors) {
		return api.ErrSize
	}
	if fieldsOf(r)&^has[r.Kind] != 0 {
		return api.ErrForm
	}
	return api.OK
}

// numbersFit: do all but the sectors fit into their bytes, those of fields that the kind does not have, too?
func numbersFit(r api.Record) bool {
	v, a, p := r.Version, r.Ask, r.Part
	return fit(most(1), r.Volume, v.Tier, v.Volume, p.N, a.Class) &&
		fit(most(2), r.At, v.Size, v.At, p.Size, a.Days) &&
		fit(most(3), r.Id, v.Id, a.Version) &&
		fit(most(4), r.N, v.Time, v.Until) &&
		ruleFits(r.Rule)
}

// ruleFits: they are written one greater, so that -1 can be; the greatest ones are not counted up here: they would leave the numbers.
func ruleFits(r api.Rule) bool {
	return min(r.Freeze, r.Drop) >= -1 && max(r.Freeze, r.Drop) < most(4)
}

// fit: are all of these from 0 to a bound?
func fit(bound int, numbers ...int) bool {
	for _, n := range numbers {
		if n < 0 || n > bound {
			return false
		}
	}
	return true
}

// textsFit: is none of these too long?
func textsFit(texts ...string) bool {
	for _, s := range texts {
		if len(s) > most(1) {
			return false
		}
	}
	return true
}

// sectorsFit: is none of these lists too long, and does each sector fit into its byte?
func sectorsFit(lists ...[]int) bool {
	for _, l := range lists {
		if len(l) > most(1) || !fit(most(1), l...) {
			return false
		}
	}
	return true
}

// fieldsOf a record: the set of those that are not empty.
func fieldsOf(r api.Record) int {
	set := 0
	add := func(field int, filled bool) {
		if filled {
			set |= field
		}
	}
	add(hasId, r.Id != 0)
	add(hasName, r.Name != "")
	add(hasKey, r.Key != "")
	add(hasN, r.N != 0)
	add(hasRule, r.Rule != api.Rule{})
	add(hasVersion, !versionEmpty(r.Version))
	add(hasAsk, r.Ask != api.Ask{})
	add(hasPart, !partEmpty(r.Part))
	add(hasSectors, len(r.Sectors) > 0)
	add(hasVolume, r.Volume != 0)
	add(hasAt, r.At != 0)
	return set
}

// versionEmpty: is nothing of it told?
func versionEmpty(v api.Version) bool {
	return v.Bucket == "" && v.Key == "" && !v.Null && !v.Marker && len(v.Sectors) == 0 &&
		fit(0, v.Id, v.Size, v.Time, v.Tier, v.Volume, v.At, v.Until)
}

// partEmpty: is nothing of it told?
func partEmpty(p api.Part) bool { return len(p.Sectors) == 0 && fit(0, p.N, p.Size) }
