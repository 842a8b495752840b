package piece

import (
	"bytes"
	"testing"

	"icehouse/api"
)

// TestHeadOf: P5.4: the Id in four bytes and the Size in two, the highest byte first.
func TestHeadOf(t *testing.T) {
	for _, c := range []struct {
		p    api.Piece
		want []byte
	}{
		{api.Piece{Id: 1, At: 9}, []byte{0, 0, 0, 1, 0, 0}},
		{api.Piece{Id: 258, At: 9, Size: 3}, []byte{0, 0, 1, 2, 0, 3}},
		{api.Piece{Id: api.MaxNumber, Size: api.MaxBody}, []byte{0, 16, 0, 0, 2, 88}},
	} {
		if got := HeadOf(c.p); !bytes.Equal(got, c.want) || len(got) != Head {
			t.Errorf("%+v: %v, want %v", c.p, got, c.want)
		}
	}
}

// TestSize: P5.4, P7.4: six bytes more than the body.
func TestSize(t *testing.T) {
	for _, n := range []int{0, 1, 64, api.MaxBody} {
		if got := Size(n); got != n+6 {
			t.Errorf("a body of %d: %d", n, got)
		}
	}
}

// TestOf: where the piece of a version stands, whatever its tier.
func TestOf(t *testing.T) {
	v := api.Version{Id: 7, Bucket: "a", Key: "k", Size: 3, Time: 2, Tier: api.Warm, Sectors: []int{4}, Volume: 1, At: 50, Until: 9}
	if got := Of(v); got != (api.Piece{Id: 7, At: 50, Size: 3}) {
		t.Errorf("%+v", got)
	}
}
