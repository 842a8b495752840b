package number

import (
	"bytes"
	"testing"
)

// TestBothWays: the highest byte stands first, in as many bytes as is said.
func TestBothWays(t *testing.T) {
	for _, c := range []struct {
		n, many int
		want    []byte
	}{
		{0, 0, nil},
		{0, 1, []byte{0}},
		{7, 1, []byte{7}},
		{255, 1, []byte{255}},
		{258, 2, []byte{1, 2}},
		{1 << 20, 3, []byte{16, 0, 0}},
		{1 << 20, 4, []byte{0, 16, 0, 0}},
		{1<<32 - 1, 4, []byte{255, 255, 255, 255}},
	} {
		got := Append(nil, c.n, c.many)
		if !bytes.Equal(got, c.want) {
			t.Errorf("Append(%d, %d): %v, want %v", c.n, c.many, got, c.want)
		}
		if n := Of(got); n != c.n {
			t.Errorf("Of(%v): %d, want %d", got, n, c.n)
		}
	}
	if got := Append([]byte("ab"), 3, 2); !bytes.Equal(got, []byte{'a', 'b', 0, 3}) {
		t.Errorf("behind others: %v", got)
	}
	if got := Append(nil, 5, -1); len(got) != 0 {
		t.Errorf("in fewer than no bytes: %v", got)
	}
}
