package list

import (
	"slices"
	"strings"
	"testing"

	"icehouse/api"
)

// both: Keys without a delimiter, and Versions, of a prefix.
var both = []struct {
	name string
	call func(s api.State, name, prefix string, most int) ([]api.Row, bool, api.Errno)
}{
	{"Keys", func(s api.State, name, prefix string, most int) ([]api.Row, bool, api.Errno) {
		return Keys(s, name, prefix, "", "", most)
	}},
	{"Versions", Versions},
}

// TestRefused: P6.1: what is refused, and which error is told first.
func TestRefused(t *testing.T) {
	bad := mixed()
	bad.Next = 0
	long := strings.Repeat("a", api.MaxKey+1)
	for _, c := range []struct {
		what   string
		s      api.State
		name   string
		prefix string
		most   int
		want   api.Errno
	}{
		{"a state that may not be", bad, "a", "", 1, api.ErrState},
		{"a state without a number", api.State{}, "a", "", 1, api.ErrState},
		{"a state ahead of the bucket", bad, "c", "", 1, api.ErrState},
		{"a state ahead of the prefix's size", bad, "a", long, 1, api.ErrState},
		{"a state ahead of the prefix's form", bad, "a", " ", 1, api.ErrState},
		{"a state ahead of most", bad, "a", "", 0, api.ErrState},
		{"no bucket", api.State{Next: 1}, "a", "", 1, api.ErrNone},
		{"no such bucket", mixed(), "c", "", 1, api.ErrNone},
		{"a bucket without a name", mixed(), "", "", 1, api.ErrNone},
		{"the beginning of a bucket", mixed(), "emp", "", 1, api.ErrNone},
		{"a name that is no name", mixed(), "a b\xff" + long, "", 1, api.ErrNone},
		{"a bucket ahead of the prefix's size", mixed(), "c", long, 1, api.ErrNone},
		{"a bucket ahead of the prefix's form", mixed(), "c", " ", 1, api.ErrNone},
		{"a bucket ahead of most", mixed(), "c", "", 0, api.ErrNone},
		{"a prefix that is too long", mixed(), "a", long, 1, api.ErrSize},
		{"a prefix that is far too long", mixed(), "a", strings.Repeat(long, 1000), 1, api.ErrSize},
		{"the prefix's size ahead of its form", mixed(), "a", long[1:] + " ", 1, api.ErrSize},
		{"the prefix's size ahead of most", mixed(), "a", long, 51, api.ErrSize},
		{"a space in the prefix", mixed(), "a", "y ", 1, api.ErrForm},
		{"a zero in the prefix", mixed(), "a", "\x00", 1, api.ErrForm},
		{"127 in the prefix", mixed(), "a", "\x7f", 1, api.ErrForm},
		{"255 in the prefix", mixed(), "a", "y\xff", 1, api.ErrForm},
		{"a rune in the prefix", mixed(), "a", "ü", 1, api.ErrForm},
		{"the last byte of the longest prefix", mixed(), "a", long[2:] + " ", 1, api.ErrForm},
		{"the prefix's form ahead of most", mixed(), "a", " ", 0, api.ErrForm},
		{"none at most", mixed(), "a", "", 0, api.ErrRange},
		{"less than none", mixed(), "a", "", -1, api.ErrRange},
		{"the least number", mixed(), "a", "", least, api.ErrRange},
		{"one more than a page", mixed(), "a", "", api.MaxPage + 1, api.ErrRange},
		{"the greatest number", mixed(), "a", "", huge, api.ErrRange},
		{"one", mixed(), "a", "", 1, api.OK},
		{"a page", mixed(), "a", "", api.MaxPage, api.OK},
		{"the longest prefix", mixed(), "a", long[1:], 1, api.OK},
		{"the least and the greatest byte", mixed(), "a", "!~", 1, api.OK},
	} {
		for _, f := range both {
			l, more, e := f.call(c.s, c.name, c.prefix, c.most)
			if e != c.want {
				t.Errorf("%s, %s: %v, want %v", f.name, c.what, e, c.want)
			}
			if e != api.OK && (len(l) > 0 || more) {
				t.Errorf("%s, %s: %v and %v beside an error", f.name, c.what, l, more)
			}
		}
		// The delimiter's size is named behind all of these.
		want := c.want
		if want == api.OK {
			want = api.ErrSize
		}
		if l, more, e := Keys(c.s, c.name, c.prefix, "//", "", c.most); e != want || len(l) > 0 || more {
			t.Errorf("Keys with a delimiter of two bytes, %s: %v, %v, %v, want %v", c.what, l, more, e, want)
		}
	}
}

// TestDelimiterSize: P6.2: one byte at most, whatever it is.
func TestDelimiterSize(t *testing.T) {
	for _, c := range []struct {
		delimiter string
		want      api.Errno
	}{
		{"", api.OK},
		{"/", api.OK},
		{" ", api.OK},
		{"\x00", api.OK},
		{"\xff", api.OK},
		{"ab", api.ErrSize},
		{"ü", api.ErrSize},
		{strings.Repeat("/", 10000), api.ErrSize},
	} {
		for _, name := range []string{"a", "empty"} {
			if l, more, e := Keys(mixed(), name, "", c.delimiter, "", 1); e != c.want || e != api.OK && (len(l) > 0 || more) {
				t.Errorf("%q: %v, %v, %v, want %v", c.delimiter, l, more, e, c.want)
			}
		}
	}
}

// TestVersionsRows: P6.1, P6.3: all that a row tells, key by key, the greatest Id first.
func TestVersionsRows(t *testing.T) {
	s := goodState(t, mixed())
	a := []api.Row{
		{Key: "Y", Id: 9, Latest: true, Tier: api.Cold},
		{Key: "y", Id: 5, Latest: true, Size: 64, Tier: api.Warm},
		{Key: "y/1", Id: 4, Latest: true, Tier: api.Hot},
		{Key: "y/1/x", Id: 8, Latest: true, Marker: true},
		{Key: "y/2", Id: 13, Latest: true, Size: 7, Tier: api.Cold},
		{Key: "y/2", Id: 6, Size: 66, Tier: api.Hot},
		{Key: "y/2", Id: 3, Size: 65, Tier: api.Cold},
		{Key: "y/3", Id: 17, Latest: true, Size: 9, Tier: api.Cold},
		{Key: "y/3", Id: 16, Marker: true},
		{Key: "y0", Id: 15, Latest: true, Size: 8, Tier: api.Cold},
		{Key: "z", Id: 11, Latest: true, Marker: true},
		{Key: "z", Id: 2, Size: 3, Tier: api.Hot},
	}
	b := []api.Row{
		{Key: "y/2", Id: 7, Latest: true, Size: 600, Tier: api.Cold},
		{Key: "y/3", Id: 18, Latest: true, Marker: true},
		{Key: "z", Id: 12, Latest: true, Size: 1, Tier: api.Cold},
	}
	for _, c := range []struct {
		name, prefix string
		want         []api.Row
	}{
		{"a", "", a},
		{"a", "y", a[1:10]},
		{"a", "Y", a[:1]},
		{"a", "y/", a[2:9]},
		{"a", "y/1", a[2:4]},
		{"a", "y/1/", a[3:4]},
		{"a", "y/1/x", a[3:4]},
		{"a", "y/2", a[4:7]},
		{"a", "y/1/xx", nil},
		{"a", "/", nil},
		{"a", "x", nil},
		{"a", "z", a[10:]},
		{"a", "~", nil},
		{"b", "", b},
		{"b", "y/", b[:2]},
		{"empty", "", nil},
		{"empty", "y", nil},
	} {
		got, more, e := Versions(s, c.name, c.prefix, api.MaxPage)
		if e != api.OK || more || !slices.Equal(got, c.want) {
			t.Errorf("%s, %q: %v, %v\ngot  %+v\nwant %+v", c.name, c.prefix, e, more, got, c.want)
		}
	}
}

// TestKeysRows: P6.1, P6.2: all that a row tells, of each key the latest version, if it is no marker.
func TestKeysRows(t *testing.T) {
	s := goodState(t, mixed())
	Y := api.Row{Key: "Y", Id: 9, Latest: true, Tier: api.Cold}
	y := api.Row{Key: "y", Id: 5, Latest: true, Size: 64, Tier: api.Warm}
	y1 := api.Row{Key: "y/1", Id: 4, Latest: true, Tier: api.Hot}
	y2 := api.Row{Key: "y/2", Id: 13, Latest: true, Size: 7, Tier: api.Cold}
	y3 := api.Row{Key: "y/3", Id: 17, Latest: true, Size: 9, Tier: api.Cold}
	y0 := api.Row{Key: "y0", Id: 15, Latest: true, Size: 8, Tier: api.Cold}
	common := func(k string) api.Row { return api.Row{Key: k, Common: true} }
	for _, c := range []struct {
		name, prefix, delimiter, after string
		want                           []api.Row
	}{
		{"a", "", "", "", []api.Row{Y, y, y1, y2, y3, y0}},
		{"a", "y", "", "", []api.Row{y, y1, y2, y3, y0}},
		{"a", "y/", "", "", []api.Row{y1, y2, y3}},
		{"a", "y/2", "", "", []api.Row{y2}},
		{"a", "z", "", "", nil},
		{"a", "y/1/", "", "", nil},
		{"a", "", "/", "", []api.Row{Y, y, common("y/"), y0}},
		{"a", "y", "/", "", []api.Row{y, common("y/"), y0}},
		{"a", "y/", "/", "", []api.Row{y1, y2, y3}},
		{"a", "", "y", "", []api.Row{Y, common("y")}},
		{"a", "", "2", "", []api.Row{Y, y, y1, common("y/2"), y3, y0}},
		{"a", "", "#", "", []api.Row{Y, y, y1, y2, y3, y0}},
		{"a", "", "\xff", "", []api.Row{Y, y, y1, y2, y3, y0}},
		{"a", "", "", "Y", []api.Row{y, y1, y2, y3, y0}},
		{"a", "", "", "x", []api.Row{y, y1, y2, y3, y0}},
		{"a", "", "", "y", []api.Row{y1, y2, y3, y0}},
		{"a", "", "", "y/1", []api.Row{y2, y3, y0}},
		{"a", "", "", "y/1/x", []api.Row{y2, y3, y0}},
		{"a", "", "", "y0", nil},
		{"a", "", "", "\xff", nil},
		{"a", "", "", "\x00", []api.Row{Y, y, y1, y2, y3, y0}},
		{"a", "", "/", "y", []api.Row{common("y/"), y0}},
		{"a", "", "/", "y/", []api.Row{y0}},
		{"a", "", "/", "y/1", []api.Row{y0}},
		{"a", "", "/", "y.", []api.Row{common("y/"), y0}},
		{"a", "y/", "/", "y/1", []api.Row{y2, y3}},
		{"a", "y/", "", "x", []api.Row{y1, y2, y3}},
		{"a", "y/", "", "z", nil},
		{"b", "", "", "", []api.Row{{Key: "y/2", Id: 7, Latest: true, Size: 600, Tier: api.Cold}, {Key: "z", Id: 12, Latest: true, Size: 1, Tier: api.Cold}}},
		{"empty", "", "", "", nil},
		{"empty", "", "/", "", nil},
	} {
		got, more, e := Keys(s, c.name, c.prefix, c.delimiter, c.after, api.MaxPage)
		if e != api.OK || more || !slices.Equal(got, c.want) {
			t.Errorf("%+v: %v, %v\ngot  %+v", c, e, more, got)
		}
	}
}

// TestCommon: P6.2: up to where the delimiter stands first behind the prefix, told once, and only for keys that are there.
func TestCommon(t *testing.T) {
	for _, c := range []struct {
		what                     string
		keys                     []string
		prefix, delimiter, after string
		most                     int
		want                     string
	}{
		{"the first place counts", []string{"a/b/c", "a/c/d"}, "", "/", "", 9, "a/*"},
		{"behind the prefix", []string{"a/b/c", "a/c/d"}, "a/", "/", "", 9, "a/b/* a/c/*"},
		{"within the prefix it does not count", []string{"a/b", "a/c"}, "a/", "/", "", 9, "a/b:1 a/c:2"},
		{"right behind the prefix", []string{"a/b", "a/c", "a"}, "a", "/", "", 9, "a:3 a/*"},
		{"doubled", []string{"a//b", "a/c"}, "a/", "/", "", 9, "a//* a/c:2"},
		{"the key begins with it", []string{"/a", "//", "b"}, "", "/", "", 9, "/* b:3"},
		{"the key is it", []string{"/"}, "", "/", "", 9, "/*"},
		{"the key ends with it", []string{"a/", "a/b"}, "", "/", "", 9, "a/*"},
		{"the key is the prefix", []string{"a/", "a/b/"}, "a/", "/", "", 9, "a/:1 a/b/*"},
		{"none given", []string{"a/b", "a/c"}, "", "", "", 9, "a/b:1 a/c:2"},
		{"a letter", []string{"xay", "xaz", "xb", "bbb"}, "", "a", "", 9, "bbb:4 xa* xb:3"},
		{"all keys are deleted", []string{"-a/b", "-a/c"}, "", "/", "", 9, ""},
		{"one key is there", []string{"-a/b", "a/c"}, "", "/", "", 9, "a/*"},
		{"one is deleted later", []string{"a/b", "a/c", "-a/c"}, "", "/", "", 9, "a/*"},
		{"all are deleted later", []string{"a/b", "-a/b"}, "", "/", "", 9, ""},
		{"it comes again", []string{"a/b", "-a/b", "a/b"}, "", "", "", 9, "a/b:3"},
		{"a row once on a page of one", []string{"a/b", "a/c", "a/d"}, "", "/", "", 1, "a/*"},
		{"more behind it", []string{"a/b", "a/c", "a/d", "b"}, "", "/", "", 1, "a/* more"},
		{"the same key in two versions", []string{"a/b", "a/b"}, "", "/", "", 1, "a/*"},
		{"two beginnings", []string{"b/1", "a/1", "b/2", "a/2"}, "", "/", "", 9, "a/* b/*"},
		{"two beginnings, one each page", []string{"b/1", "a/1", "b/2", "a/2"}, "", "/", "", 1, "a/* more"},
		{"behind the first", []string{"b/1", "a/1", "b/2", "a/2"}, "", "/", "a/", 1, "b/*"},
		{"behind a key of the first", []string{"b/1", "a/1", "b/2", "a/2"}, "", "/", "a/1", 9, "b/*"},
		{"ahead of the first", []string{"b/1", "a/1"}, "", "/", "a", 9, "a/* b/*"},
		{"after is not greater", []string{"a", "b"}, "", "", "b", 9, ""},
		{"after is longer", []string{"a", "b"}, "", "", "a!", 9, "b:2"},
		{"after is no key", []string{"a", "b"}, "", "", "a" + strings.Repeat(" ", 1000), 9, "b:2"},
		{"what is left out ahead is not more", []string{"a", "b"}, "", "", "a", 1, "b:2"},
		{"byte by byte", []string{"a~", "a", "aB", "ab", "a/", "!"}, "", "", "", 9, "!:6 a:2 a/:5 aB:3 ab:4 a~:1"},
	} {
		s := goodState(t, keyed(c.keys...))
		l, more, e := Keys(s, "a", c.prefix, c.delimiter, c.after, c.most)
		if got := told(l, more); e != api.OK || got != c.want {
			t.Errorf("%s: %v, %q, want %q", c.what, e, got, c.want)
		}
	}
}

// TestMost: P6.1: the first rows, and whether there are more, whatever most is.
func TestMost(t *testing.T) {
	var keys []string
	for i := range api.MaxLive {
		// A number that steps through all rests, so that Ids do not rise with the keys.
		keys = append(keys, "k"+string(rune('A'+i*7%api.MaxLive)))
	}
	s := goodState(t, keyed(keys...))
	for _, f := range both {
		all, more, e := f.call(s, "a", "", api.MaxPage)
		if e != api.OK || more || len(all) != api.MaxLive {
			t.Fatalf("%s: %d rows, %v, %v", f.name, len(all), more, e)
		}
		for i := range all[1:] {
			if all[i].Key >= all[i+1].Key {
				t.Errorf("%s: %s ahead of %s", f.name, all[i].Key, all[i+1].Key)
			}
		}
		for most := 1; most <= api.MaxPage; most++ {
			l, more, e := f.call(s, "a", "", most)
			if e != api.OK || more != (most < len(all)) || !slices.Equal(l, all[:min(most, len(all))]) {
				t.Errorf("%s, at most %d: %d rows, %v, %v", f.name, most, len(l), more, e)
			}
		}
	}
}

// TestPages: P6.2: page behind page, each from the last row's key on, all is told once.
func TestPages(t *testing.T) {
	s := goodState(t, mixed())
	for _, delimiter := range []string{"", "/", "y", "2"} {
		all, _, _ := Keys(s, "a", "", delimiter, "", api.MaxPage)
		for most := 1; most <= len(all); most++ {
			var got []api.Row
			after, more := "", true
			for more {
				l, m, e := Keys(s, "a", "", delimiter, after, most)
				if e != api.OK || len(l) == 0 {
					t.Fatalf("%q, %d behind %q: %d rows, %v", delimiter, most, after, len(l), e)
				}
				got, after, more = append(got, l...), l[len(l)-1].Key, m
			}
			if !slices.Equal(got, all) {
				t.Errorf("%q, %d a page: %v, want %v", delimiter, most, got, all)
			}
		}
	}
}
