// Package piece: what bytes on tape begin with, and how much room they take.
package piece

import (
	"icehouse/api"
	"icehouse/number"
)

// Head of a piece: so many bytes stand ahead of a version's own.
const Head = 6

// Size on tape of a body of so many bytes.
func Size(body int) int { return Head + body }

// HeadOf a piece: whose it is, and how long.
func HeadOf(p api.Piece) []byte {
	return number.Append(number.Append(nil, p.Id, 4), p.Size, 2)
}

// Of a version that is on tape.
func Of(v api.Version) api.Piece { return api.Piece{Id: v.Id, At: v.At, Size: v.Size} }
