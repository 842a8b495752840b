package state

import (
	"slices"
	"strings"
	"testing"

	"icehouse/api"
)

// TestNames: P3.1, names and keys at their lengths, and each byte.
func TestNames(t *testing.T) {
	for _, c := range []struct {
		name  string
		most  int
		check func(s string) api.Errno
	}{{"CheckName", api.MaxName, CheckName}, {"CheckKey", api.MaxKey, CheckKey}} {
		for _, d := range []struct {
			s    string
			want api.Errno
		}{
			{"", api.ErrSize},
			{"a", api.OK},
			{strings.Repeat("a", c.most), api.OK},
			{strings.Repeat("a", c.most+1), api.ErrSize},
			{strings.Repeat(" ", c.most+1), api.ErrSize},
			{strings.Repeat("a", 1<<20), api.ErrSize},
			{strings.Repeat("a", c.most-1) + " ", api.ErrForm},
			{" a", api.ErrForm},
			{"a b", api.ErrForm},
			{"\u00e4", api.ErrForm},
			{strings.Repeat("\u00e4", c.most/2), api.ErrForm},
			{strings.Repeat("\u00e4", c.most/2+1), api.ErrSize},
			{"!~", api.OK},
		} {
			if got := c.check(d.s); got != d.want {
				t.Errorf("%s(%q): got %v, want %v", c.name, d.s, got, d.want)
			}
		}
		for b := range 256 {
			want := api.ErrForm
			if b >= 33 && b <= 126 {
				want = api.OK
			}
			if got := c.check("a" + string([]byte{byte(b)})); got != want {
				t.Errorf("%s of the byte %d: got %v, want %v", c.name, b, got, want)
			}
		}
	}
}

// TestRules: P3.1, each part of a rule at its bounds, and what is told first.
func TestRules(t *testing.T) {
	long := strings.Repeat("a", api.MaxKey)
	for _, c := range []struct {
		r    api.Rule
		want api.Errno
	}{
		{api.Rule{}, api.OK},
		{none(), api.OK},
		{api.Rule{Prefix: long, Freeze: api.MaxTime, Drop: api.MaxTime}, api.OK},
		{api.Rule{Prefix: long + "a"}, api.ErrSize},
		{api.Rule{Prefix: long + " ", Freeze: -2}, api.ErrSize},
		{api.Rule{Prefix: " "}, api.ErrForm},
		{api.Rule{Prefix: "a\x7f"}, api.ErrForm},
		{api.Rule{Prefix: "a\x20b", Drop: -2}, api.ErrForm},
		{api.Rule{Prefix: "!~"}, api.OK},
		{api.Rule{Freeze: -2}, api.ErrRange},
		{api.Rule{Freeze: api.MaxTime + 1}, api.ErrRange},
		{api.Rule{Freeze: least}, api.ErrRange},
		{api.Rule{Freeze: huge}, api.ErrRange},
		{api.Rule{Drop: -2}, api.ErrRange},
		{api.Rule{Drop: api.MaxTime + 1}, api.ErrRange},
		{api.Rule{Drop: least}, api.ErrRange},
		{api.Rule{Drop: huge}, api.ErrRange},
		{api.Rule{Freeze: 5, Drop: 3}, api.OK},
	} {
		if got := CheckRule(c.r); got != c.want {
			t.Errorf("CheckRule(%+v): got %v, want %v", c.r, got, c.want)
		}
	}
}

// TestSectors: P3.1, all numbers that it is promised for; others end, too.
func TestSectors(t *testing.T) {
	for n := range api.MaxNumber + 1 {
		got := Sectors(n)
		if got*api.Sector < n || (got-1)*api.Sector >= n && n > 0 || n == 0 && got != 0 {
			t.Fatalf("Sectors(%d): got %d", n, got)
		}
	}
	for _, n := range []int{least, -65, -1, api.MaxNumber + 1, huge} {
		if got := Sectors(n); got < 0 {
			t.Errorf("Sectors(%d): got %d", n, got)
		}
	}
}

// TestCopy: P3.1, the same state, also of one that may not be.
func TestCopy(t *testing.T) {
	for _, s := range []api.State{
		{},
		rich(),
		crowded(api.MaxLive + 3),
		{Next: -5, Clock: huge, Gone: []int{3, 3, -1}, Queue: []api.Ask{{Version: 4, Days: -1, Class: 9}}},
		{Buckets: []api.Bucket{{Name: strings.Repeat("b", 99), Mode: 7}}, Uploads: []api.Upload{{Id: -1, Parts: []api.Part{{N: 9, Size: -1, Sectors: []int{-4}}}}}},
	} {
		before := text(s)
		if got := Copy(s); text(got) != before || text(s) != before {
			t.Errorf("Copy:\ngot  %s\nwant %s", text(got), before)
		}
	}
}

// TestFree: P3.12.
func TestFree(t *testing.T) {
	taken := []int{7, 3, 0, 199, 1, 11, 10, 12}
	for many := range api.MaxHot + 1 {
		want := slices.DeleteFunc(numbers(many), func(n int) bool { return slices.Contains(taken, n) })
		got, e := Free(rich(), many)
		if e != api.OK || !slices.Equal(got, want) {
			t.Errorf("Free of %d: got %v %v, want %v", many, got, e, want)
		}
	}
	for _, c := range []struct {
		what string
		s    api.State
		many int
		want api.Errno
	}{
		{"less than none", rich(), -1, api.ErrRange},
		{"the least", rich(), least, api.ErrRange},
		{"one more than all", rich(), api.MaxHot + 1, api.ErrRange},
		{"the most", rich(), huge, api.ErrRange},
		{"a state that may not be", api.State{}, 3, api.ErrState},
		{"a state that may not be, and the range", api.State{}, -1, api.ErrState},
	} {
		if got, e := Free(c.s, c.many); e != c.want || len(got) != 0 {
			t.Errorf("Free, %s: got %v %v, want %v", c.what, got, e, c.want)
		}
	}
	all := api.State{Next: 2, Buckets: []api.Bucket{{Name: "a"}}, Uploads: []api.Upload{{Id: 1, Bucket: "a", Key: "x"}}}
	for i := range 2 {
		all.Uploads[0].Parts = append(all.Uploads[0].Parts, api.Part{N: i + 1, Size: 128, Sectors: []int{2 * i, 2*i + 1}})
	}
	if got, e := Free(all, 4); e != api.OK || len(got) != 0 {
		t.Errorf("Free, all are taken: got %v %v", got, e)
	}
}

// TestLatest: P3.13.
func TestLatest(t *testing.T) {
	for _, c := range []struct {
		name, key string
		id        int
	}{
		{"a", "x", 2},
		{"b", "x", 5},
		{"b", "y/1", 6},
		{"d", "x", 9},
		{"d", "y/1", 11},
		{"d", "z", 13}, // a marker
		{"a", "y/1", 0},
		{"b", "w", 0}, // an upload is no version
		{"b", "", 0},
		{"", "x", 0},
		{"c", "x", 0}, // no such bucket
		{"b", "y/", 0},
		{strings.Repeat("b", 99), " ", 0},
	} {
		var want api.Version
		for _, v := range rich().Versions {
			if v.Id == c.id {
				want = v
			}
		}
		v, there, e := Latest(rich(), c.name, c.key)
		if text(v) != text(want) || there != (c.id > 0) || e != api.OK {
			t.Errorf("Latest(%q, %q): got %+v %v %v, want %d", c.name, c.key, v, there, e, c.id)
		}
	}
	s := with(func(s *api.State) { s.Next = 0 })
	if v, there, e := Latest(s, "a", "x"); e != api.ErrState || there || text(v) != text(api.Version{}) {
		t.Errorf("Latest in a state that may not be: got %+v %v %v", v, there, e)
	}
}

// TestMemory: what comes out shares nothing, and what is handed in stays as it is, spare room and all.
func TestMemory(t *testing.T) {
	s := roomy(rich())
	if Check(s) != api.OK {
		t.Fatal("the state may not be")
	}
	before := whole(s)
	one, two := Copy(s), Copy(s)
	free1, _ := Free(s, 30)
	free2, _ := Free(s, 30)
	version1, _, _ := Latest(s, "b", "y/1")
	version2, _, _ := Latest(s, "b", "y/1")
	if len(free1) == 0 || len(version1.Sectors) == 0 {
		t.Fatal("nothing to look at")
	}
	apart(t, "answers", s, one, two, free1, free2, version1, version2)
	if whole(s) != before {
		t.Errorf("a state that was handed in is changed:\ngot  %s\nwant %s", whole(s), before)
	}
}
