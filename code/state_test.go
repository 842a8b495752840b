package code

import (
	"bytes"
	"testing"

	"icehouse/api"
)

// encodesState: the state has these bytes, and these bytes are of the state.
func encodesState(t *testing.T, what string, s api.State, want []byte) {
	t.Helper()
	before := text(s)
	if b, e := EncodeState(s); e != api.OK || !bytes.Equal(b, want) {
		t.Errorf("%s: EncodeState\ngot  %v, %v\nwant %v", what, b, e, want)
	}
	if text(s) != before {
		t.Errorf("%s: EncodeState changes what is handed in", what)
	}
	b := bytes.Clone(want)
	if got, e := DecodeState(b); e != api.OK || text(got) != before {
		t.Errorf("%s: DecodeState\ngot  %+v, %v\nwant %s", what, got, e, before)
	}
	if !bytes.Equal(b, want) {
		t.Errorf("%s: DecodeState changes what is handed in", what)
	}
}

// decodeStateRefuses: nothing is told beside an error.
func decodeStateRefuses(t *testing.T, what string, b []byte, want api.Errno) {
	t.Helper()
	if s, e := DecodeState(b); e != want || text(s) != text(api.State{}) {
		t.Errorf("%s: DecodeState of %v tells %+v, %v, want %v", what, b, s, e, want)
	}
}

// TestStates (P4.5, P4.6): the bytes of an empty state, of a rich one, and of one at its bounds.
func TestStates(t *testing.T) {
	encodesState(t, "empty", api.State{Next: 1}, join(0, 0, 1, 0, 0, 0, 0, 0, 0, 0, 0, 0))
	encodesState(t, "rich", rich(), richBytes())
	encodesState(t, "late", api.State{Next: api.MaxNumber, Clock: api.MaxTime, Gone: []int{0, 1, 2, 3, 4, 5, 6, 7}},
		join(16, 0, 0, 64, 0, 0, 0, 0, 0, 0, 0, 8, 0, 1, 2, 3, 4, 5, 6, 7))
	encodesState(t, "the greatest rule and Until", api.State{
		Next: 2, Clock: api.MaxTime,
		Buckets:  []api.Bucket{{Name: "a", Rule: api.Rule{Freeze: api.MaxTime, Drop: api.MaxTime}}},
		Versions: []api.Version{{Id: 1, Bucket: "a", Key: "x", Tier: api.Warm, Until: api.MaxTime + api.MaxDays}},
	}, join(0, 0, 2, 64, 0, 0, 0, 1, 1, "a", 0, 0, 64, 0, 0, 1, 64, 0, 0, 1,
		1, 0, 0, 1, 1, "a", 1, "x", 0, 0, 0, 0, 0, 0, 0, 0, 3, 0, 0, 0, 0, 64, 0, 3, 232, 0, 0, 0))
}

// TestCrowdedState (P4.5): as many versions as there may be.
func TestCrowdedState(t *testing.T) {
	s := api.State{Next: 41, Buckets: []api.Bucket{{Name: "a"}}}
	b := join(0, 0, 41, 0, 0, 0, 0, 1, 1, "a", 0, 0, 0, 0, 0, 1, 0, 0, 0, 1, 40)
	for i := 1; i <= api.MaxLive; i++ {
		s.Versions = append(s.Versions, api.Version{Id: i, Bucket: "a", Key: "k", Marker: true})
		b = join(b, 0, 0, i, 1, "a", 1, "k", 0, 1, make([]byte, 15))
	}
	encodesState(t, "crowded", s, join(b, 0, 0, 0))
}

// TestEncodeStateRefuses (P4.5): states that may not be.
func TestEncodeStateRefuses(t *testing.T) {
	for _, change := range []func(s *api.State){
		func(s *api.State) { s.Next = 0 },
		func(s *api.State) { s.Next = huge },
		func(s *api.State) { s.Clock = least },
		func(s *api.State) { s.Buckets[0].Mode = 3 },
		func(s *api.State) { s.Buckets = append(s.Buckets, make([]api.Bucket, 300)...) },
		func(s *api.State) { s.Versions[0].Tier = 9 },
		func(s *api.State) { s.Uploads[0].Parts[0].N = 6 },
		func(s *api.State) { s.Queue[0].Class = 3 },
		func(s *api.State) { s.Gone = []int{5, 2} },
	} {
		s := rich()
		change(&s)
		if b, e := EncodeState(s); e != api.ErrState || len(b) > 0 {
			t.Errorf("%+v: %v, %v", s, b, e)
		}
	}
}

// TestDecodeStateShort (P4.6): bytes that end too early, at whatever place, and more of them.
func TestDecodeStateShort(t *testing.T) {
	b := richBytes()
	for i := range b {
		decodeStateRefuses(t, "cut off", b[:i:i], api.ErrShort)
		decodeStateRefuses(t, "more in memory", b[:i], api.ErrShort)
	}
	decodeStateRefuses(t, "nil", nil, api.ErrShort)
	decodeStateRefuses(t, "one more", join(b, 0), api.ErrForm)
	decodeStateRefuses(t, "twice", join(b, b), api.ErrForm)
}

// TestDecodeStateTruths (P4.6): what is neither 0 nor 1 is ErrForm, where it stands; the other things that are wrong, too.
func TestDecodeStateTruths(t *testing.T) {
	b := richBytes()
	at := bytes.Index(b, join(3, "y/1", 0, 0)) + 4
	for n := 2; n < 256; n++ {
		for i := range 2 {
			c := bytes.Clone(b)
			c[at+i] = byte(n)
			decodeStateRefuses(t, "a truth", c, api.ErrForm)
			decodeStateRefuses(t, "a truth, and no more", c[:at+i+1], api.ErrForm)
			decodeStateRefuses(t, "too early, ahead of a truth", c[:at+i], api.ErrShort)
		}
	}
}

// TestDecodeStateChecks (P4.6): states that may not be; what is wrong with the bytes is told ahead of it.
func TestDecodeStateChecks(t *testing.T) {
	no := join(0, 0, 0, 0, 0, 0, 0, 0, 0, 0, 0, 0)
	decodeStateRefuses(t, "Next is 0", no, api.ErrState)
	decodeStateRefuses(t, "Next is 0, and more", join(no, 0), api.ErrForm)
	decodeStateRefuses(t, "Next is 0, and too early", no[:11:11], api.ErrShort)
	decodeStateRefuses(t, "Next is too great", join(16, 0, 1, 0, 0, 0, 0, 0, 0, 0, 0, 0), api.ErrState)
	decodeStateRefuses(t, "Clock is too great", join(0, 0, 1, 64, 0, 0, 1, 0, 0, 0, 0, 0), api.ErrState)
	decodeStateRefuses(t, "Gone is no volume", join(0, 0, 1, 0, 0, 0, 0, 0, 0, 0, 0, 1, 8), api.ErrState)
	decodeStateRefuses(t, "Gone twice", join(0, 0, 1, 0, 0, 0, 0, 0, 0, 0, 0, 2, 3, 3), api.ErrState)
	decodeStateRefuses(t, "an ask of no version", join(0, 0, 1, 0, 0, 0, 0, 0, 0, 0, 1, 0, 0, 1, 0, 1, 0, 0), api.ErrState)
	decodeStateRefuses(t, "too many buckets", join(0, 0, 1, 0, 0, 0, 0, 255, make([]byte, 255*11), 0, 0, 0, 0), api.ErrState)
	decodeStateRefuses(t, "too many buckets, and too early", join(0, 0, 1, 0, 0, 0, 0, 255, make([]byte, 255*11), 0, 0, 0), api.ErrShort)
}

// TestStateMemory: what comes out is new memory, what is handed in stays as it is, its spare room, too.
func TestStateMemory(t *testing.T) {
	s := roomy(rich())
	before := whole(s)
	b, _ := EncodeState(s)
	c, _ := EncodeState(s)
	if whole(s) != before {
		t.Errorf("EncodeState changes what is handed in")
	}
	in := roomy(b)
	before = whole(in)
	x, _ := DecodeState(in)
	y, _ := DecodeState(in)
	if whole(in) != before {
		t.Errorf("DecodeState changes what is handed in")
	}
	apart(t, "states", s, b, c, in, x, y)
	was := text(x)
	for i := range in {
		in[i] = 0
	}
	if text(x) != was {
		t.Errorf("what DecodeState told changes with the bytes")
	}
}
