package hot

import (
	"bytes"
	"reflect"
	"strings"
	"testing"

	"icehouse/api"
	"icehouse/dev"
)

// Numbers that are far outside all bounds.
const (
	huge  = int(^uint(0) >> 1)
	least = -huge - 1
)

// roomy geometry: twelve sectors for payloads, so that the longest body has room.
func roomy() api.Geometry {
	return api.Geometry{Ring: 5, Area: 3, Hot: 12, Volume: 1000, Volumes: 3}
}

// hotAt: where the sectors for payloads begin on the disk of roomy().
const hotAt = 13

// text of so many bytes, no two neighbours the same, and no two sectors.
func text(n int) []byte {
	return []byte(strings.Repeat("abcdefg", n/7+1)[:n])
}

// sector: bytes, filled up with zeros.
func sector(b []byte) []byte { return append(bytes.Clone(b), make([]byte, api.Sector-len(b))...) }

// blank devices of roomy(), with a mark in each sector, and a volume of tape.
func blank(t *testing.T) api.Devices {
	t.Helper()
	d, e := dev.New(roomy())
	if e != api.OK {
		t.Fatal(e)
	}
	for i := range d.Safe {
		for k := range d.Safe[i] {
			d.Safe[i][k] = byte(100 + i)
		}
	}
	d.Volumes = []api.Volume{{Data: []byte("tape"), Synced: 2}}
	return d
}

// counting: so many numbers from 0 on.
func counting(many int) []int {
	var l []int
	for i := range many {
		l = append(l, i)
	}
	return l
}

// twin: the same devices in other memory.
func twin(d api.Devices) api.Devices {
	out := api.Devices{Fuel: d.Fuel}
	for _, b := range d.Safe {
		out.Safe = append(out.Safe, bytes.Clone(b))
	}
	for _, w := range d.Cache {
		out.Cache = append(out.Cache, api.Write{At: w.At, Data: bytes.Clone(w.Data)})
	}
	for _, v := range d.Volumes {
		out.Volumes = append(out.Volumes, api.Volume{Data: bytes.Clone(v.Data), Synced: v.Synced, Gone: v.Gone})
	}
	return out
}

// same: do these devices have the same in them?
func same(a, b api.Devices) bool {
	if len(a.Safe) != len(b.Safe) || len(a.Cache) != len(b.Cache) || len(a.Volumes) != len(b.Volumes) || a.Fuel != b.Fuel {
		return false
	}
	for i := range a.Safe {
		if !bytes.Equal(a.Safe[i], b.Safe[i]) {
			return false
		}
	}
	for i, w := range a.Cache {
		if w.At != b.Cache[i].At || !bytes.Equal(w.Data, b.Cache[i].Data) {
			return false
		}
	}
	for i, v := range a.Volumes {
		u := b.Volumes[i]
		if !bytes.Equal(v.Data, u.Data) || v.Synced != u.Synced || v.Gone != u.Gone {
			return false
		}
	}
	return true
}

// overlap: do two lists, spare room and all, have memory in common?
func overlap(a, b []byte) bool {
	if cap(a) == 0 || cap(b) == 0 {
		return false
	}
	p, q := reflect.ValueOf(a).Pointer(), reflect.ValueOf(b).Pointer()
	return p < q+uintptr(cap(b)) && q < p+uintptr(cap(a))
}

// lists of bytes in devices.
func lists(d api.Devices) [][]byte {
	out := append([][]byte{}, d.Safe...)
	for _, w := range d.Cache {
		out = append(out, w.Data)
	}
	for _, v := range d.Volumes {
		out = append(out, v.Data)
	}
	return out
}

// spare: the same bytes, with room behind them that has a mark in it.
func spare(b []byte) []byte {
	return append(bytes.Clone(b), 1, 2, 3, 4, 5, 6, 7, 8)[:len(b)]
}

// untouched: does the room behind these bytes have its mark still?
func untouched(b []byte) bool {
	return bytes.Equal(b[:len(b)+8][len(b):], []byte{1, 2, 3, 4, 5, 6, 7, 8})
}
