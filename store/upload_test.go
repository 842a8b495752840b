package store

import (
	"testing"

	"icehouse/api"
)

// TestUpload: P8.9: parts, as they come, become one body, by their numbers.
func TestUpload(t *testing.T) {
	acts := `
		bucket a => ok
		mode a 1 => ok
		put a k x => 1
		begin a k => 2
		begin a l => 3
		send 2 4 70*c => 4
		send 2 1 y => 1
		send 3 5 q => 5
		send 2 2 - => 2
		send 2 1 65*e => 1
	`
	o := plays(t, geo(), acts)
	same(t, "the uploads", o.State.Uploads, []api.Upload{
		{Id: 2, Bucket: "a", Key: "k", Parts: []api.Part{{N: 1, Size: 65, Sectors: []int{5, 6}}, {N: 2}, {N: 4, Size: 70, Sectors: []int{1, 2}}}},
		{Id: 3, Bucket: "a", Key: "l", Parts: []api.Part{{N: 5, Size: 1, Sectors: []int{4}}}},
	})
	o = plays(t, geo(), acts+`
		put a z 128*g => 4
		tick 6 => ok
		complete 2 => full
		abort 3 => 3
		complete 3 => none
		complete 2 => full
		erase a k 1 => 1
		complete 2 => 5
		complete 2 => none
	`)
	same(t, "the state", show(o.State.Next, o.State.Uploads, o.State.Versions), show(6, []api.Upload{}, []api.Version{
		{Id: 4, Bucket: "a", Key: "z", Size: 128, Tier: api.Hot, Sectors: []int{3, 7}},
		{Id: 5, Bucket: "a", Key: "k", Size: 135, Time: 6, Tier: api.Hot, Sectors: []int{0, 4, 8}},
	}))
	o, _ = Run(geo(), []api.Act{act("bucket a"), act("begin a k"), act("send 1 5 70*c"), act("send 1 2 -"), act("send 1 1 65*e"), act("complete 1"), act("get a k")})
	if got := o.Answers[6].Body; got != text(65, 'e')+text(70, 'c') {
		t.Errorf("it is %q", got)
	}
}

// TestUploadByHand: P8.9: what stands in the journal, and the order in which it is done.
func TestUploadByHand(t *testing.T) {
	o := plays(t, geo(), `
		bucket a => ok
		begin a k => 1
		send 1 2 70*c => 2
		complete 1 => 2
		begin a l => 3
		abort 3 => 3
	`)
	h := newHand(t, geo())
	h.commit(bucketRecord("a"))
	h.commit(api.Record{Kind: api.AddUpload, Id: 1, Name: "a", Key: "k"})
	h.write(text(70, 'c'), 0, 1)
	h.commit(api.Record{Kind: api.AddPart, Id: 1, Part: api.Part{N: 2, Size: 70, Sectors: []int{0, 1}}})
	h.write(text(70, 'c'), 2, 3)
	h.commit(api.Record{Kind: api.DropUpload, Id: 1}, versionRecord(hotOne(2, 70, 2, 3)))
	h.commit(api.Record{Kind: api.AddUpload, Id: 3, Name: "a", Key: "l"})
	h.commit(api.Record{Kind: api.DropUpload, Id: 3})
	h.same(o)
}

// TestComplete: P8.9: as a put in the upload's bucket would be, when it is completed.
func TestComplete(t *testing.T) {
	o := plays(t, roomy(), `
		bucket a => ok
		bucket b => ok
		mode b 1 => ok
		begin a k => 1
		begin b k => 2
		begin b k => 3
		put a k x => 4
		put b k y => 5
		mode b 2 => ok
		tick 3 => ok
		send 1 1 z => 1
		send 2 1 z => 1
		send 3 5 600*c => 5
		complete 1 => 6
		complete 2 => 7
		complete 3 => 8
		get b k => 8 hot@3 =600*c
		begin a k => 9
		send 9 1 300*c => 1
		send 9 2 301*c => 2
		complete 9 => size
		send 9 2 - => 2
		complete 9 => 10
		get a k => 10 hot@3 =300*c
	`)
	if show(o.State.Uploads) != show([]api.Upload{}) || len(o.State.Versions) != 3 {
		t.Errorf("%+v", o.State)
	}
	for _, v := range o.State.Versions {
		if v.Null != (v.Id != 5) {
			t.Errorf("%+v", v)
		}
	}
}

// TestUploadRefused: P8.9: what is refused, and what of it is told first.
func TestUploadRefused(t *testing.T) {
	plays(t, geo(), `
		bucket a => ok
		begin b k => form
		begin a - => form
		begin a ü => form
		begin a 12345678901234567 => form
		begin a k => 1
		begin a k => 2
		begin a k => 3
		begin a k => 4
		begin a k => full
		begin b - => full
		send 5 0 601*a => none
		send 0 1 x => none
		send -1 1 x => none
		send 1 0 601*a => size
		send 1 0 600*a => full
		send 1 0 x => form
		send 1 -1 x => form
		send 1 6 x => form
		send 1 5 576*a => 5
		send 1 5 x => full
		send 1 6 x => full
		send 1 4 - => 4
		complete 2 => form
		complete 9 => none
		complete 0 => none
		complete 1 => full
		abort 0 => none
		abort 5 => none
		abort 2 => 2
		abort 2 => none
		send 2 1 - => none
		abort 1 => 1
		begin a k => 5
	`)
}

// TestFarNumbers: P8.9: uploads and parts that there can't be.
func TestFarNumbers(t *testing.T) {
	for _, n := range []int{huge, least} {
		for _, a := range []api.Act{
			{Kind: api.Send, N: n, M: 1}, {Kind: api.Complete, N: n}, {Kind: api.Abort, N: n},
		} {
			if o, e := Run(geo(), []api.Act{act("bucket a"), act("begin a k"), a}); e != api.OK || o.Answers[2].Code != api.ErrNone {
				t.Errorf("%+v: %v, %+v", a, e, o.Answers[2])
			}
		}
		if o, e := Run(geo(), []api.Act{act("bucket a"), act("begin a k"), {Kind: api.Send, N: 1, M: n}}); e != api.OK || o.Answers[2].Code != api.ErrForm {
			t.Errorf("part %d: %v, %+v", n, e, o.Answers[2])
		}
	}
}

// TestCompleteFull: P8.9: with the most versions there is room for one only if another gives way.
func TestCompleteFull(t *testing.T) {
	plays(t, roomy(), `
		bucket a => ok
		begin a k => 1
		send 1 1 70*c => 1
		bucket b => ok
		begin b x => 2
		send 2 1 70*d => 1
		mode a 1 => ok
	`+fill(3, 2+api.MaxLive)+`
		complete 1 => full
		complete 2 => full
		erase a k => 42
		complete 2 => 43
		get b x => 43 hot@0 =70*d
		complete 1 => full
	`)
}
