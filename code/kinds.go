package code

import "icehouse/api"

// Fields of a record, beside its Kind: bits of a set, from the lowest one on in the order in which they are written.
const (
	hasId = 1 << iota
	hasName
	hasKey
	hasN
	hasRule
	hasVersion
	hasAsk
	hasPart
	hasSectors
	hasVolume
	hasAt
)

// has: the fields that each kind of record has; there is no kind 0.
var has = [...]int{
	api.AddBucket:  hasName,
	api.SetMode:    hasName | hasN,
	api.SetRule:    hasName | hasRule,
	api.AddVersion: hasVersion,
	api.DropOne:    hasId,
	api.Freeze:     hasId | hasVolume | hasAt,
	api.AddAsk:     hasAsk,
	api.Thaw:       hasId | hasSectors | hasN,
	api.Chill:      hasId,
	api.AddUpload:  hasId | hasName | hasKey,
	api.AddPart:    hasId | hasPart,
	api.DropUpload: hasId,
	api.Pass:       hasN,
	api.GiveUp:     hasVolume,
}

// isKind: is there such a kind of records?
func isKind(n int) bool { return n > 0 && n < len(has) }

// eachField of a kind that there is, in the order in which they are written.
func eachField(kind int, do func(field int)) {
	for field := hasId; field <= hasAt; field <<= 1 {
		if has[kind]&field != 0 {
			do(field)
		}
	}
}
