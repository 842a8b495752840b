package hot

import (
	"bytes"
	"slices"
	"testing"

	"icehouse/api"
	"icehouse/dev"
)

// TestPack: P5.4: heads and bodies, one behind the other, and where each one stands.
func TestPack(t *testing.T) {
	long := text(api.MaxBody)
	for _, c := range []struct {
		name   string
		at     int
		ids    []int
		bodies [][]byte
		want   []byte
		l      []api.Piece
	}{
		{"none", 0, nil, nil, nil, nil},
		{"none, lists without any", api.MaxVolume, []int{}, [][]byte{}, nil, nil},
		{"one", 5, []int{7}, [][]byte{{1, 2}}, []byte{0, 0, 0, 7, 0, 2, 1, 2}, []api.Piece{{Id: 7, At: 5, Size: 2}}},
		{"one without bytes", 0, []int{1}, [][]byte{nil}, []byte{0, 0, 0, 1, 0, 0}, []api.Piece{{Id: 1}}},
		{"high bytes", 9, []int{0x0a0b0c}, [][]byte{long[:0x203]}, slices.Concat([]byte{0, 10, 11, 12, 2, 3}, long[:0x203]), []api.Piece{{Id: 0x0a0b0c, At: 9, Size: 0x203}}},
		{"the most", api.MaxVolume, []int{api.MaxNumber}, [][]byte{long}, slices.Concat([]byte{0, 16, 0, 0, 2, 88}, long), []api.Piece{{Id: api.MaxNumber, At: api.MaxVolume, Size: api.MaxBody}}},
		{
			"three, not by their ids", 100, []int{9, 2, 300}, [][]byte{[]byte("ab"), {}, []byte("c")},
			[]byte("\x00\x00\x00\x09\x00\x02ab" + "\x00\x00\x00\x02\x00\x00" + "\x00\x00\x01\x2c\x00\x01c"),
			[]api.Piece{{Id: 9, At: 100, Size: 2}, {Id: 2, At: 108, Size: 0}, {Id: 300, At: 114, Size: 1}},
		},
		{
			"one id twice", 0, []int{4, 4}, [][]byte{[]byte("a"), []byte("b")},
			[]byte("\x00\x00\x00\x04\x00\x01a" + "\x00\x00\x00\x04\x00\x01b"),
			[]api.Piece{{Id: 4, At: 0, Size: 1}, {Id: 4, At: 7, Size: 1}},
		},
	} {
		b, l, e := Pack(c.at, c.ids, c.bodies)
		if e != api.OK || !bytes.Equal(b, c.want) || !slices.Equal(l, c.l) {
			t.Errorf("%s: %v\ngot  %v %v\nwant %v %v", c.name, e, b, l, c.want, c.l)
		}
	}
}

// TestPackBeyond: P5.4: only the first place is held against a bound: what is packed may be more than a volume has.
func TestPackBeyond(t *testing.T) {
	var ids []int
	var bodies [][]byte
	for i := range 20 {
		ids, bodies = append(ids, i+1), append(bodies, text(api.MaxBody))
	}
	b, l, e := Pack(api.MaxVolume, ids, bodies)
	if e != api.OK || len(b) != 20*606 || len(l) != 20 || l[19] != (api.Piece{Id: 20, At: api.MaxVolume + 19*606, Size: api.MaxBody}) {
		t.Errorf("%v, %d bytes, %v", e, len(b), l)
	}
}

// TestPackRefused: P5.4: what is refused, and in which order.
func TestPackRefused(t *testing.T) {
	one, long := []byte("x"), text(api.MaxBody+1)
	for _, c := range []struct {
		name   string
		at     int
		ids    []int
		bodies [][]byte
		want   api.Errno
	}{
		{"the place is below 0", -1, []int{1}, [][]byte{one}, api.ErrRange},
		{"the place is too great", api.MaxVolume + 1, []int{1}, [][]byte{one}, api.ErrRange},
		{"the place is the least number", least, nil, nil, api.ErrRange},
		{"the place is the greatest number", huge, nil, nil, api.ErrRange},
		{"the place, ahead of how many there are", -1, []int{1}, nil, api.ErrRange},
		{"the place, ahead of a body", -1, []int{1}, [][]byte{long}, api.ErrRange},
		{"a body too few", 0, []int{1, 2}, [][]byte{one}, api.ErrForm},
		{"a body too many", 0, []int{1}, [][]byte{one, one}, api.ErrForm},
		{"no bodies", 0, []int{1}, nil, api.ErrForm},
		{"no ids", 0, nil, [][]byte{one}, api.ErrForm},
		{"how many there are, ahead of an id", 0, []int{0}, nil, api.ErrForm},
		{"how many there are, ahead of a body", 0, nil, [][]byte{long}, api.ErrForm},
		{"id 0", 0, []int{0}, [][]byte{one}, api.ErrRange},
		{"id below 0", 0, []int{-1}, [][]byte{one}, api.ErrRange},
		{"id too great", 0, []int{api.MaxNumber + 1}, [][]byte{one}, api.ErrRange},
		{"the least id", 0, []int{least}, [][]byte{one}, api.ErrRange},
		{"the greatest id", 0, []int{huge}, [][]byte{one}, api.ErrRange},
		{"id of four bytes and one", 0, []int{1<<32 + 1}, [][]byte{one}, api.ErrRange},
		{"a body too long", 0, []int{1}, [][]byte{long}, api.ErrSize},
		{"a body far too long", 0, []int{1}, [][]byte{text(1 << 17)}, api.ErrSize},
		{"the id ahead of its body", 0, []int{0}, [][]byte{long}, api.ErrRange},
		{"the first body ahead of the second id", 0, []int{1, 0}, [][]byte{long, one}, api.ErrSize},
		{"the first id ahead of the second body", 0, []int{0, 1}, [][]byte{one, long}, api.ErrRange},
		{"the second id", 0, []int{1, 0}, [][]byte{one, long}, api.ErrRange},
		{"the last body", 0, []int{1, 2, 3}, [][]byte{one, one, long}, api.ErrSize},
	} {
		b, l, e := Pack(c.at, c.ids, c.bodies)
		if e != c.want || len(b) != 0 || len(l) != 0 {
			t.Errorf("%s: %v, want %v; %d bytes, %d pieces", c.name, e, c.want, len(b), len(l))
		}
	}
}

// taped devices: two volumes with pieces, an end that is not synced, and one that is gone.
func taped(t *testing.T) api.Devices {
	t.Helper()
	d := blank(t)
	zero := "junk" + "\x00\x00\x00\x07\x00\x02ab" + "\x00\x00\x01\x2c\x00\x00"
	one := "\x00\x10\x00\x00\x02\x58" + string(text(api.MaxBody))
	d.Volumes = []api.Volume{{Data: []byte(zero), Synced: 6}, {Data: []byte(one), Synced: len(one)}, {Gone: true}}
	return d
}

// TestFetch: P5.5: a piece is fetched as it was packed, be it synced or not, and the devices alive or not.
func TestFetch(t *testing.T) {
	d := taped(t)
	for _, fuel := range []int{-1, 0, 1} {
		d.Fuel = fuel
		for _, c := range []struct {
			v    int
			p    api.Piece
			want []byte
		}{
			{0, api.Piece{Id: 7, At: 4, Size: 2}, []byte("ab")},
			{0, api.Piece{Id: 300, At: 12, Size: 0}, nil},
			{1, api.Piece{Id: api.MaxNumber, At: 0, Size: api.MaxBody}, text(api.MaxBody)},
		} {
			if b, e := Fetch(roomy(), d, c.v, c.p); e != api.OK || !bytes.Equal(b, c.want) {
				t.Errorf("%d, %v: %v, %q", c.v, c.p, e, b)
			}
		}
	}
}

// TestFetchRefused: P5.5: what is refused, and in which order.
func TestFetchRefused(t *testing.T) {
	d := taped(t)
	short := taped(t)
	short.Safe = short.Safe[1:]
	good := api.Piece{Id: 7, At: 4, Size: 2}
	for _, c := range []struct {
		name string
		g    api.Geometry
		d    api.Devices
		v    int
		p    api.Piece
		want api.Errno
	}{
		{"id 0", roomy(), d, 0, api.Piece{Id: 0, At: 4, Size: 2}, api.ErrRange},
		{"id below 0", roomy(), d, 0, api.Piece{Id: -1, At: 4, Size: 2}, api.ErrRange},
		{"id too great", roomy(), d, 0, api.Piece{Id: api.MaxNumber + 1, At: 4, Size: 2}, api.ErrRange},
		{"the least id", roomy(), d, 0, api.Piece{Id: least, At: 4, Size: 2}, api.ErrRange},
		{"the greatest id", roomy(), d, 0, api.Piece{Id: huge, At: 4, Size: 2}, api.ErrRange},
		{"id that is the same in four bytes", roomy(), d, 0, api.Piece{Id: 1<<32 + 7, At: 4, Size: 2}, api.ErrRange},
		{"size below 0", roomy(), d, 0, api.Piece{Id: 7, At: 4, Size: -1}, api.ErrRange},
		{"size too great", roomy(), d, 1, api.Piece{Id: api.MaxNumber, At: 0, Size: api.MaxBody + 1}, api.ErrRange},
		{"the least size", roomy(), d, 0, api.Piece{Id: 7, At: 4, Size: least}, api.ErrRange},
		{"the greatest size", roomy(), d, 0, api.Piece{Id: 7, At: 4, Size: huge}, api.ErrRange},
		{"the piece ahead of the devices: id", roomy(), short, 0, api.Piece{Id: 0, At: 4, Size: 2}, api.ErrRange},
		{"the piece ahead of the devices: size", roomy(), short, 0, api.Piece{Id: 7, At: 4, Size: 601}, api.ErrRange},
		{"the piece ahead of the volume", roomy(), d, 9, api.Piece{Id: 0, At: 4, Size: 2}, api.ErrRange},
		{"no geometry", api.Geometry{}, d, 0, good, api.ErrRange},
		{"no geometry, ahead of the volume", api.Geometry{}, d, 9, good, api.ErrRange},
		{"wrong devices", roomy(), short, 0, good, api.ErrState},
		{"wrong devices, ahead of the volume", roomy(), short, 9, good, api.ErrState},
		{"no such volume", roomy(), d, 3, good, api.ErrNone},
		{"a volume below 0", roomy(), d, -1, good, api.ErrNone},
		{"a volume that is gone", roomy(), d, 2, good, api.ErrNone},
		{"the volume ahead of the place", roomy(), d, 3, api.Piece{Id: 7, At: -1, Size: 2}, api.ErrNone},
		{"a place below 0", roomy(), d, 0, api.Piece{Id: 7, At: -1, Size: 2}, api.ErrRange},
		{"the least place", roomy(), d, 0, api.Piece{Id: 7, At: least, Size: 2}, api.ErrRange},
		{"the greatest place", roomy(), d, 0, api.Piece{Id: 7, At: huge, Size: 2}, api.ErrRange},
		{"behind the end", roomy(), d, 0, api.Piece{Id: 7, At: 19, Size: 0}, api.ErrRange},
		{"at the end", roomy(), d, 0, api.Piece{Id: 300, At: 18, Size: 0}, api.ErrRange},
		{"the head stands there in part", roomy(), d, 0, api.Piece{Id: 300, At: 13, Size: 0}, api.ErrRange},
		{"the body stands there in part", roomy(), d, 0, api.Piece{Id: 300, At: 12, Size: 1}, api.ErrRange},
		{"another id", roomy(), d, 0, api.Piece{Id: 8, At: 4, Size: 2}, api.ErrForm},
		{"another id, by a higher byte", roomy(), d, 0, api.Piece{Id: 256 + 7, At: 4, Size: 2}, api.ErrForm},
		{"a shorter one", roomy(), d, 0, api.Piece{Id: 7, At: 4, Size: 1}, api.ErrForm},
		{"a longer one", roomy(), d, 0, api.Piece{Id: 7, At: 4, Size: 3}, api.ErrForm},
		{"a longer one, by a higher byte", roomy(), d, 1, api.Piece{Id: api.MaxNumber, At: 0, Size: 256 + 88}, api.ErrForm},
		{"another place", roomy(), d, 0, api.Piece{Id: 7, At: 3, Size: 2}, api.ErrForm},
		{"another volume", roomy(), d, 1, good, api.ErrForm},
	} {
		if b, e := Fetch(c.g, c.d, c.v, c.p); e != c.want || len(b) != 0 {
			t.Errorf("%s: %v, want %v; %q", c.name, e, c.want, b)
		}
	}
}

// TestFetchPacked: P5.4 and P5.5: all that is packed, and appended where it was said to stand, is fetched.
func TestFetchPacked(t *testing.T) {
	g := roomy()
	d := blank(t)
	at := len(d.Volumes[0].Data)
	ids, bodies := []int{5, 1, api.MaxNumber, 77}, [][]byte{text(100), nil, text(api.MaxBody), text(3)}
	b, l, e := Pack(at, ids, bodies)
	if e != api.OK {
		t.Fatal(e)
	}
	if d, e = dev.Append(g, d, 0, b); e != api.OK {
		t.Fatal(e)
	}
	for i, p := range l {
		if got, e := Fetch(g, d, 0, p); e != api.OK || !bytes.Equal(got, bodies[i]) || p.Id != ids[i] {
			t.Errorf("%v: %v, %q", p, e, got)
		}
	}
}

// TestPieceMemory: what is handed in is not changed, and what comes out shares nothing with it.
func TestPieceMemory(t *testing.T) {
	ids, one, two := []int{1, 2, 9}, spare(text(10)), spare(text(20))
	bodies := [][]byte{one, two, nil}
	b, _, e := Pack(0, ids[:2], bodies[:2])
	if e != api.OK || overlap(b, one) || overlap(b, two) {
		t.Errorf("%v, or memory is shared", e)
	}
	if !bytes.Equal(one, text(10)) || !bytes.Equal(two, text(20)) || !untouched(one) || !untouched(two) {
		t.Error("a body is changed")
	}
	if !slices.Equal(ids, []int{1, 2, 9}) || bodies[2] != nil {
		t.Error("a list is changed")
	}
	d := taped(t)
	before := twin(d)
	b, e = Fetch(roomy(), d, 0, api.Piece{Id: 7, At: 4, Size: 2})
	for _, x := range lists(d) {
		if overlap(b, x) {
			t.Error("what is fetched shares memory with the tape")
		}
	}
	if e != api.OK || !same(d, before) {
		t.Errorf("%v, or the devices are changed", e)
	}
}
