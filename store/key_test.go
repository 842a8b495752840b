package store

import (
	"strings"
	"testing"

	"icehouse/api"
	"icehouse/list"
)

// TestBuckets: P8.5: they are made, and have their modes and rules; what the state refuses is refused.
func TestBuckets(t *testing.T) {
	o := plays(t, geo(), `
		bucket b => ok
		bucket a => ok
		bucket b => twice
		bucket 123456789 => size
		bucket ü => form
		mode a 1 => ok
		mode a 0 => state
		mode a 2 => ok
		mode b 0 => ok
		mode b -1 => range
		mode c 1 => none
		rule a y/ 3 5 => ok
		rule b - -1 0 => ok
		rule b 12345678901234567 1 1 => size
		rule b - -2 1 => range
		rule c - 1 1 => none
		bucket c => ok
		bucket d => ok
		bucket e => full
	`)
	none := api.Rule{Freeze: -1, Drop: -1}
	same(t, "the buckets", o.State.Buckets, []api.Bucket{
		{Name: "a", Mode: api.Suspended, Rule: api.Rule{Prefix: "y/", Freeze: 3, Drop: 5}},
		{Name: "b", Rule: api.Rule{Freeze: -1}},
		{Name: "c", Rule: none},
		{Name: "d", Rule: none},
	})
}

// TestPut: P8.5: what a version is, in buckets of each mode.
func TestPut(t *testing.T) {
	o := plays(t, geo(), `
		bucket a => ok
		bucket b => ok
		bucket c => ok
		mode b 1 => ok
		mode c 1 => ok
		tick 3 => ok
		put a k 65*a => 1
		put b k - => 2
		put b k y => 3
		put c k x => 4
		mode c 2 => ok
		tick 1 => ok
		put c k z => 5
		put c k w => 6
		put a k v => 7
	`)
	same(t, "the versions", o.State.Versions, []api.Version{
		{Id: 2, Bucket: "b", Key: "k", Time: 3, Tier: api.Hot},
		{Id: 3, Bucket: "b", Key: "k", Size: 1, Time: 3, Tier: api.Hot, Sectors: []int{2}},
		{Id: 4, Bucket: "c", Key: "k", Size: 1, Time: 3, Tier: api.Hot, Sectors: []int{3}},
		{Id: 6, Bucket: "c", Key: "k", Null: true, Size: 1, Time: 4, Tier: api.Hot, Sectors: []int{5}},
		{Id: 7, Bucket: "a", Key: "k", Null: true, Size: 1, Time: 4, Tier: api.Hot, Sectors: []int{4}},
	})
}

// TestPutRefused: P8.5: what is refused, and what of it is told first.
func TestPutRefused(t *testing.T) {
	plays(t, geo(), `
		bucket a => ok
		put b k x => none
		put - k x => none
		put b 12345678901234567 601*a => none
		put b ü 601*a => none
		put a 12345678901234567 x => size
		put a - x => size
		put a ü x => form
		put a ü 601*a => form
		put a k 601*a => size
		put a k 577*a => full
		put a k 576*a => 1
		put a x 1000*a => size
		put a x x => full
		delete a k => 1
		put a k 600*a => full
	`)
	plays(t, roomy(), `
		bucket a => ok
		put a k 600*a => 1
		put a k 601*a => size
		get a k => 1 hot@0 =600*a
	`)
	// Bytes of a body are any: they are not runes.
	o, e := Run(geo(), []api.Act{act("bucket a"), {Kind: api.Put, Name: "a", Key: "k", Body: "\x00\xff\n"}, act("get a k")})
	if e != api.OK || o.Answers[2].Body != "\x00\xff\n" {
		t.Errorf("%v, %+v", e, o.Answers)
	}
}

// keep: three versions and a marker of a key, others beside them.
const keep = `
	bucket a => ok
	bucket b => ok
	mode a 1 => ok
	put a k x => 1
	put a k y => 2
	put a l z => 3
	put b k w => 4
	delete a k => 5
	put a k v => 6
`

// TestChosen: P8.6: by a number, or the latest one.
func TestChosen(t *testing.T) {
	plays(t, geo(), keep+`
		get a k => 6 hot@0 =v
		get a k 6 => 6 hot@0 =v
		get a k 1 => 1 hot@0 =x
		get a k 2 => 2 hot@0 =y
		get a k 5 => kind
		get a k 3 => none
		get a k 4 => none
		get a k 7 => none
		get a k -1 => none
		get a l => 3 hot@0 =z
		get b k => 4 hot@0 =w
		get b l => none
		get c k => none
		get a - => none
		get c k 1 => none
		erase a k 6 => 6
		get a k => none
		get a k 5 => kind
		get a k 2 => 2 hot@0 =y
		erase a k 5 => 5
		get a k => 2 hot@0 =y
		get a k 5 => none
	`)
	for _, a := range []api.Act{
		{Kind: api.Get, Name: "a", Key: "k", N: huge},
		{Kind: api.Archive, Name: "a", Key: "k", N: least},
		{Kind: api.Restore, Name: "a", Key: text(99, 'a'), N: huge, M: 1},
		{Kind: api.Erase, Name: text(99, 'a'), Key: "k"},
	} {
		if o, e := Run(geo(), []api.Act{act("bucket a"), act("put a k x"), a}); e != api.OK || o.Answers[2].Code != api.ErrNone {
			t.Errorf("%+v: %v, %+v", a, e, o.Answers)
		}
	}
}

// TestChosenEverywhere: P8.6, P8.8, P8.10, P8.12: all that choose a version choose the same; Erase takes a marker by its number, too.
func TestChosenEverywhere(t *testing.T) {
	plays(t, geo(), keep+`
		delete a l => 7
		archive a l => none
		archive a k 5 => kind
		archive a k 3 => none
		archive c k => none
		archive a k 2 => 1
		restore a l 0 1 => none
		restore a k 5 1 => kind
		restore a k 3 1 => none
		restore c k 0 1 => none
		restore a k 2 1 => 2
		erase a l => none
		erase a k 3 => none
		erase c k => none
		erase a l 7 => 7
		erase a l => 3
		erase a l => none
		erase a k 5 => 5
		erase a k 2 => 2
		erase a k => 6
		erase a k => 1
		erase a k => none
	`)
}

// TestGet: P8.7: a body, or what is known beside it.
func TestGet(t *testing.T) {
	plays(t, geo(), `
		bucket a => ok
		tick 5 => ok
		put a k 100*c => 1
		put a x - => 2
		tick 2 => ok
		get a k => 1 hot@5 =100*c
		get a x => 2 hot@5
		archive a k => 1
		archive a x => 1
		get a k => cold 1 cold@5
		get a x => cold 2 cold@5
		restore a k 0 3 => 1
		restore a x 0 1 => 2
		get a k => cold 1 cold@5
		serve => 1
		serve => 2
		get a k => 1 warm@10 =100*c
		get a x => 2 warm@8
		tick 1 => ok
		get a k => 1 warm@10 =100*c
		get a x => cold 2 warm@8
		tick 1 => ok
		get a k => 1 warm@10 =100*c
		tick 1 => ok
		get a k => cold 1 warm@10
		tick 90 => ok
		get a k => cold 1 warm@10
		sweep => 2
		get a k => cold 1 cold@5
	`)
}

// TestGetDoesNothing: P8.7: reading is no thing that is done to devices: those without fuel live.
func TestGetDoesNothing(t *testing.T) {
	plays(t, geo(), `
		bucket a => ok
		put a k 100*c => 1
		arm 0 => ok
		get a k => 1 hot@0 =100*c
		get a x => none
		list a - - - 9 => 1 k#1/100/hot/true
		versions a - 9 => 1 k#1/100/hot/true
		pack => idle
		sweep => idle
		compact => idle
		serve => idle
		put a x - => down
	`)
}

// TestDelete: P8.8: in buckets of each mode.
func TestDelete(t *testing.T) {
	o := plays(t, geo(), `
		bucket a => ok
		bucket b => ok
		mode b 1 => ok
		put a k x => 1
		put b k x => 2
		tick 4 => ok
		delete a k => 1
		delete a k => none
		delete a x => none
		delete b k => 3
		delete b k => 4
		delete b x => 5
		get b k => none
		get b k 2 => 2 hot@0 =x
		mode b 2 => ok
		delete b k => 6
		tick 1 => ok
		delete b k => 7
		put b x y => 8
		delete b x => 9
	`)
	v := func(id int, key string, time int, null bool) api.Version {
		return api.Version{Id: id, Bucket: "b", Key: key, Null: null, Marker: true, Time: time}
	}
	same(t, "the versions", o.State.Versions, []api.Version{
		{Id: 2, Bucket: "b", Key: "k", Size: 1, Tier: api.Hot, Sectors: []int{1}},
		v(3, "k", 4, false), v(4, "k", 4, false), v(5, "x", 4, false), v(7, "k", 5, true), v(9, "x", 5, true),
	})
}

// TestDeleteRefused: P8.8: the bucket ahead of the key; a number that comes with it does not matter.
func TestDeleteRefused(t *testing.T) {
	plays(t, geo(), `
		bucket a => ok
		delete b k => none
		delete b - => none
		delete a - => size
		delete a 12345678901234567 => size
		delete a ü => form
		delete a k => none
		put a k x => 1
		delete a - 1 => size
		delete a k 7 => 1
		mode a 1 => ok
		delete a - => size
		delete a ü => form
		delete a k => 2
	`)
}

// TestErase: P8.8: the version goes, and what is asked of it; the one ahead of it is the latest then.
func TestErase(t *testing.T) {
	o := plays(t, geo(), `
		bucket a => ok
		mode a 1 => ok
		put a k x => 1
		put a k y => 2
		archive a k => 1
		restore a k 0 1 => 2
		erase a k => 2
		serve => idle
		get a k => 1 hot@0 =x
		erase a k 1 => 1
		versions a - 9 => ok
	`)
	same(t, "the state", o.State, api.State{Next: 3, Buckets: []api.Bucket{{Name: "a", Mode: 1, Rule: api.Rule{Freeze: -1, Drop: -1}}}})
}

// TestListings: P8.11: what is told of the state by list, with the act's fields in their places.
func TestListings(t *testing.T) {
	acts := []api.Act{act("bucket a"), act("bucket b"), act("mode a 1"), act("put b q x")}
	for _, key := range strings.Fields("x y/1 y/2 z/1/2 y/2 w x") {
		acts = append(acts, api.Act{Kind: api.Put, Name: "a", Key: key, Body: key})
	}
	acts = append(acts, act("delete a w"), act("archive a x"))
	o, _ := Run(geo(), acts)
	for _, name := range []string{"a", "b", "c"} {
		for _, prefix := range []string{"", "y", "y/", "q", "no key", text(17, 'a')} {
			for _, n := range []int{-1, 0, 1, 2, 3, 50, 51, huge} {
				for _, delimiter := range []string{"", "/", "//"} {
					for _, after := range []string{"", "x", "y/", "y/1"} {
						a := api.Act{Kind: api.List, Name: name, Key: prefix, Body: delimiter, After: after, N: n, M: 7, L: 7}
						rows, more, e := list.Keys(o.State, name, prefix, delimiter, after, n)
						tells(t, acts, a, rows, more, e)
					}
				}
				a := api.Act{Kind: api.Versions, Name: name, Key: prefix, Body: "//", After: "x", N: n, M: 7, L: 7}
				rows, more, e := list.Versions(o.State, name, prefix, n)
				tells(t, acts, a, rows, more, e)
			}
		}
	}
	plays(t, geo(), keep+`
		list a - - - 9 => 2 k#6/1/hot/true l#3/1/hot/true
		list a - - - 1 => 1 k#6/1/hot/true more
		list a - - k 1 => 1 l#3/1/hot/true
		list c - - - 1 => none
		versions a k 3 => 3 k#6/1/hot/true k#5/0/marker/false k#2/1/hot/false more
		versions a - 0 => range
	`)
}

// tells: a listing behind acts is told as it is wanted.
func tells(t *testing.T, acts []api.Act, a api.Act, rows []api.Row, more bool, e api.Errno) {
	t.Helper()
	o, _ := Run(geo(), append(acts[:len(acts):len(acts)], a))
	same(t, show(a), o.Answers[len(acts)], api.Answer{Code: e, N: len(rows), Rows: rows, More: more})
}
