package code

import (
	"bytes"
	"testing"

	"icehouse/api"
)

// encodes: the records have these bytes, and these bytes are of the records.
func encodes(t *testing.T, what string, l []api.Record, want []byte) {
	t.Helper()
	before := text(l)
	if b, e := Encode(l); e != api.OK || !bytes.Equal(b, want) {
		t.Errorf("%s: Encode\ngot  %v, %v\nwant %v", what, b, e, want)
	}
	if text(l) != before {
		t.Errorf("%s: Encode changes what is handed in", what)
	}
	b := bytes.Clone(want)
	if got, e := Decode(b); e != api.OK || text(got) != before {
		t.Errorf("%s: Decode\ngot  %+v, %v\nwant %s", what, got, e, before)
	}
	if !bytes.Equal(b, want) {
		t.Errorf("%s: Decode changes what is handed in", what)
	}
}

// encodeRefuses: nothing is told beside an error.
func encodeRefuses(t *testing.T, what string, l []api.Record, want api.Errno) {
	t.Helper()
	if b, e := Encode(l); e != want || len(b) > 0 {
		t.Errorf("%s: Encode tells %v, %v, want %v", what, b, e, want)
	}
}

// decodeRefuses: nothing is told beside an error.
func decodeRefuses(t *testing.T, what string, b []byte, want api.Errno) {
	t.Helper()
	if l, e := Decode(b); e != want || len(l) > 0 {
		t.Errorf("%s: Decode of %v tells %+v, %v, want %v", what, b, l, e, want)
	}
}

// TestEachKind (P4.1, P4.3, P4.4): the bytes of each kind, by itself and all together.
func TestEachKind(t *testing.T) {
	all := []byte{14}
	var l []api.Record
	for _, c := range full() {
		encodes(t, text(c.record.Kind), []api.Record{c.record}, join(1, c.bytes))
		all, l = append(all, c.bytes...), append(l, c.record)
	}
	encodes(t, "all", l, all)
	encodes(t, "none", nil, []byte{0})
	encodes(t, "none, not nil", []api.Record{}, []byte{0})
}

// TestTruths (P4.1): 1 and 0, each in its own byte.
func TestTruths(t *testing.T) {
	for _, c := range []struct {
		null, marker bool
		want         []byte
	}{
		{false, false, []byte{0, 0}},
		{false, true, []byte{0, 1}},
		{true, false, []byte{1, 0}},
		{true, true, []byte{1, 1}},
	} {
		r := api.Record{Kind: api.AddVersion, Version: api.Version{Null: c.null, Marker: c.marker}}
		encodes(t, text(c.want), []api.Record{r}, join(1, 4, 0, 0, 0, 0, 0, c.want, 0, 0, 0, 0, 0, 0, 0, 0, 0, 0, 0, 0, 0, 0, 0))
	}
}

// TestEmptyAndFull (P4.1): fields with nothing in them, and as much as there may be.
func TestEmptyAndFull(t *testing.T) {
	encodes(t, "a name without bytes", []api.Record{{Kind: api.AddBucket}}, join(1, 1, 0))
	encodes(t, "a thaw without sectors", []api.Record{{Kind: api.Thaw}}, join(1, 8, 0, 0, 0, 0, 0, 0, 0, 0))
	encodes(t, "a part with nothing in it", []api.Record{{Kind: api.AddPart}}, join(1, 11, 0, 0, 0, 0, 0, 0, 0))
	encodes(t, "a rule with never", []api.Record{{Kind: api.SetRule, Rule: api.Rule{Freeze: -1, Drop: -1}}}, join(1, 3, 0, 0, 0, 0, 0, 0, 0, 0, 0, 0))
	encodes(t, "a rule with at once", []api.Record{{Kind: api.SetRule, Rule: api.Rule{}}}, join(1, 3, 0, 0, 0, 0, 0, 1, 0, 0, 0, 1))
	encodes(t, "the greatest rule", []api.Record{{Kind: api.SetRule, Rule: api.Rule{Freeze: 1<<32 - 2, Drop: 1<<32 - 2}}},
		join(1, 3, 0, 0, 255, 255, 255, 255, 255, 255, 255, 255))
	encodes(t, "the greatest numbers", []api.Record{{Kind: api.Freeze, Id: 1<<24 - 1, Volume: 255, At: 1<<16 - 1}},
		join(1, 6, 255, 255, 255, 255, 255, 255))
	l := make([]int, 255)
	b := join(1, 8, 0, 0, 1, 255, 255, 255, 255, 255)
	for i := range l {
		l[i] = 254 - i
		b = append(b, byte(254-i))
	}
	encodes(t, "as many sectors as there may be", []api.Record{{Kind: api.Thaw, Id: 1, N: 1<<32 - 1, Sectors: l}}, b)
}

// TestTexts (P4.1): whatever bytes they have.
func TestTexts(t *testing.T) {
	encodes(t, "bytes", []api.Record{{Kind: api.AddBucket, Name: "\x00\xff\xc3"}}, join(1, 1, 3, 0, 255, 195))
}

// TestHowMany (P4.3): up to 255 records; more is told ahead of what is wrong with one, and that one by one.
func TestHowMany(t *testing.T) {
	l := make([]api.Record, 255)
	b := []byte{255}
	for i := range l {
		l[i] = api.Record{Kind: api.GiveUp, Volume: i}
		b = append(b, 14, byte(i))
	}
	encodes(t, "255", l, b)
	encodeRefuses(t, "256", append(l[:255:255], api.Record{Kind: api.GiveUp}), api.ErrSize)
	encodeRefuses(t, "256, and one of no kind", append(l[:255:255], api.Record{}), api.ErrSize)
	encodeRefuses(t, "256 of no kind", make([]api.Record, 256), api.ErrSize)
	encodeRefuses(t, "512", make([]api.Record, 512), api.ErrSize)
	encodeRefuses(t, "255, the last one of no kind", append(l[:254:254], api.Record{}), api.ErrKind)
}

// TestEncodeOneByOne (P4.3): the first record that is refused tells, whatever is wrong with those behind it.
func TestEncodeOneByOne(t *testing.T) {
	good := api.Record{Kind: api.Chill, Id: 1}
	bad := []struct {
		r    api.Record
		want api.Errno
	}{
		{api.Record{Kind: 15}, api.ErrKind},
		{api.Record{Kind: api.Pass, N: -1}, api.ErrRange},
		{api.Record{Kind: api.Thaw, Sectors: []int{256}}, api.ErrSize},
		{api.Record{Kind: api.Chill, N: 1}, api.ErrForm},
	}
	for _, a := range bad {
		encodeRefuses(t, text(a.want), []api.Record{a.r}, a.want)
		for _, b := range bad {
			encodeRefuses(t, text(a.want), []api.Record{good, a.r, good, b.r}, a.want)
		}
	}
}

// TestDecodeShort (P4.4): bytes that end too early, at whatever place.
func TestDecodeShort(t *testing.T) {
	all := []byte{14}
	for _, c := range full() {
		all = append(all, c.bytes...)
		b := join(1, c.bytes)
		for i := range b {
			decodeRefuses(t, "cut off", b[:i:i], api.ErrShort)
		}
	}
	for i := range all {
		decodeRefuses(t, "cut off", all[:i:i], api.ErrShort)
	}
	// What stands behind them in memory is not theirs.
	decodeRefuses(t, "more in memory", []byte{1, 14, 7}[:2], api.ErrShort)
	decodeRefuses(t, "nil", nil, api.ErrShort)
	decodeRefuses(t, "a record too few", join(2, 14, 7), api.ErrShort)
	decodeRefuses(t, "a text that ends too early", join(1, 1, 255, "abc"), api.ErrShort)
	decodeRefuses(t, "sectors that end too early", join(1, 8, 0, 0, 1, 0, 0, 0, 1, 3, 1, 2), api.ErrShort)
}

// TestDecodeMore (P4.4): more bytes are ErrForm, if nothing else is wrong.
func TestDecodeMore(t *testing.T) {
	for _, c := range full() {
		decodeRefuses(t, "one more", join(1, c.bytes, 0), api.ErrForm)
		decodeRefuses(t, "a record more", join(1, c.bytes, c.bytes), api.ErrForm)
	}
	decodeRefuses(t, "behind none", []byte{0, 0}, api.ErrForm)
	decodeRefuses(t, "no kind, and more", join(1, 15, 0), api.ErrKind)
}

// TestDecodeKinds (P4.4): all bytes but 1 to 14 are no kind.
func TestDecodeKinds(t *testing.T) {
	for kind := range 256 {
		if kind >= 1 && kind <= 14 {
			continue
		}
		decodeRefuses(t, "at the end", join(1, kind), api.ErrKind)
		decodeRefuses(t, "with more", join(1, kind, 0, 0, 0, 0, 0, 0), api.ErrKind)
		decodeRefuses(t, "the second one", join(2, 14, 7, kind), api.ErrKind)
		decodeRefuses(t, "more are said", join(255, kind), api.ErrKind)
	}
}

// TestDecodeTruths (P4.4): what is neither 0 nor 1 is ErrForm, ahead of all that is wrong behind it.
func TestDecodeTruths(t *testing.T) {
	head, tail := []byte{4, 0, 0, 1, 0, 0}, make([]byte, 15)
	for n := 2; n < 256; n++ {
		decodeRefuses(t, "Null", join(1, head, n, 0, tail), api.ErrForm)
		decodeRefuses(t, "Marker", join(1, head, 1, n, tail), api.ErrForm)
		decodeRefuses(t, "Null, and no more", join(1, head, n), api.ErrForm)
		decodeRefuses(t, "Marker, and no more", join(1, head, 0, n), api.ErrForm)
		decodeRefuses(t, "Null, and no kind behind it", join(2, head, n, 0, tail, 99), api.ErrForm)
	}
	if _, e := Decode(join(1, head, 1, 1, tail)); e != api.OK {
		t.Errorf("both true: %v", e)
	}
}

// TestDecodeFirst (P4.4): the first thing that is wrong tells.
func TestDecodeFirst(t *testing.T) {
	bad := join(4, 0, 0, 1, 0, 0, 2, 0, make([]byte, 15))
	for _, c := range []struct {
		what string
		b    []byte
		want api.Errno
	}{
		{"no kind, then a truth", join(2, 15, bad), api.ErrKind},
		{"a truth, then no kind", join(2, bad, 15), api.ErrForm},
		{"a truth, then too early", join(3, bad, 14), api.ErrForm},
		{"no kind, then too early", join(3, 14, 1, 0), api.ErrKind},
		{"too early where a truth should be", join(1, 4, 0, 0, 1, 0, 0), api.ErrShort},
		{"too early where a kind should be", join(1), api.ErrShort},
		{"too early, ahead of more that is wrong", join(9, 14), api.ErrShort},
	} {
		decodeRefuses(t, c.what, c.b, c.want)
	}
}

// TestDecodeNotHeldAgainstStates (P4.4): numbers that no state may have are told as they are.
func TestDecodeNotHeldAgainstStates(t *testing.T) {
	r := api.Record{Kind: api.SetMode, Name: "far too long a name", N: 1<<32 - 1}
	encodes(t, "a mode that there is not", []api.Record{r}, join(1, 2, 19, r.Name, 255, 255, 255, 255))
}

// TestRecordMemory: what comes out is new memory, what is handed in stays as it is, its spare room, too.
func TestRecordMemory(t *testing.T) {
	var l []api.Record
	for _, c := range full() {
		l = append(l, c.record, c.record)
	}
	l = roomy(l)
	before := whole(l)
	b, _ := Encode(l)
	c, _ := Encode(l)
	if whole(l) != before {
		t.Errorf("Encode changes what is handed in")
	}
	in := roomy(b)
	before = whole(in)
	m, _ := Decode(in)
	n, _ := Decode(in)
	if whole(in) != before {
		t.Errorf("Decode changes what is handed in")
	}
	apart(t, "records", l, b, c, in, m, n)
	was := text(m)
	for i := range in {
		in[i] = 0
	}
	if text(m) != was {
		t.Errorf("what Decode told changes with the bytes")
	}
}
