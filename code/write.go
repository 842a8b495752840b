package code

import (
	"icehouse/api"
	"icehouse/number"
)

// appendList of at most 255, behind how many there are.
func appendList[T any](b []byte, l []T, appendOne func(b []byte, x T) []byte) []byte {
	b = number.Append(b, len(l), 1)
	for _, x := range l {
		b = appendOne(b, x)
	}
	return b
}

// appendRecord that can be written.
func appendRecord(b []byte, r api.Record) []byte {
	b = number.Append(b, r.Kind, 1)
	eachField(r.Kind, func(field int) { b = appendField(b, r, field) })
	return b
}

// appendField of a record.
func appendField(b []byte, r api.Record, field int) []byte {
	switch field {
	case hasId:
		return number.Append(b, r.Id, 3)
	case hasName:
		return appendText(b, r.Name)
	case hasKey:
		return appendText(b, r.Key)
	case hasN:
		return number.Append(b, r.N, 4)
	case hasRule:
		return appendRule(b, r.Rule)
	case hasVersion:
		return appendVersion(b, r.Version)
	case hasAsk:
		return appendAsk(b, r.Ask)
	case hasPart:
		return appendPart(b, r.Part)
	case hasSectors:
		return appendList(b, r.Sectors, appendSector)
	case hasVolume:
		return number.Append(b, r.Volume, 1)
	case hasAt:
		return number.Append(b, r.At, 2)
	}
	return b
}

// appendText of at most 255 bytes.
func appendText(b []byte, s string) []byte {
	b = number.Append(b, len(s), 1)
	return append(b, s...)
}

// appendTruth: is something true?
func appendTruth(b []byte, t bool) []byte {
	if t {
		return append(b, 1)
	}
	return append(b, 0)
}

// appendSector, or a volume: one byte.
func appendSector(b []byte, n int) []byte { return number.Append(b, n, 1) }

// appendRule: its numbers one greater, so that -1 can be.
func appendRule(b []byte, r api.Rule) []byte {
	b = appendText(b, r.Prefix)
	b = number.Append(b, r.Freeze+1, 4)
	return number.Append(b, r.Drop+1, 4)
}

// appendBucket of a state.
func appendBucket(b []byte, x api.Bucket) []byte {
	b = appendText(b, x.Name)
	b = number.Append(b, x.Mode, 1)
	return appendRule(b, x.Rule)
}

// appendVersion of a record, or of a state.
func appendVersion(b []byte, v api.Version) []byte {
	b = number.Append(b, v.Id, 3)
	b = appendText(b, v.Bucket)
	b = appendText(b, v.Key)
	b = appendTruth(b, v.Null)
	b = appendTruth(b, v.Marker)
	b = number.Append(b, v.Size, 2)
	b = number.Append(b, v.Time, 4)
	b = number.Append(b, v.Tier, 1)
	b = appendList(b, v.Sectors, appendSector)
	b = number.Append(b, v.Volume, 1)
	b = number.Append(b, v.At, 2)
	return number.Append(b, v.Until, 4)
}

// appendUpload of a state.
func appendUpload(b []byte, u api.Upload) []byte {
	b = number.Append(b, u.Id, 3)
	b = appendText(b, u.Bucket)
	b = appendText(b, u.Key)
	return appendList(b, u.Parts, appendPart)
}

// appendPart of a record, or of an upload.
func appendPart(b []byte, p api.Part) []byte {
	b = number.Append(b, p.N, 1)
	b = number.Append(b, p.Size, 2)
	return appendList(b, p.Sectors, appendSector)
}

// appendAsk of a record, or of a queue.
func appendAsk(b []byte, a api.Ask) []byte {
	b = number.Append(b, a.Version, 3)
	b = number.Append(b, a.Days, 2)
	return number.Append(b, a.Class, 1)
}
