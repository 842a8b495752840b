package state

import (
	"fmt"
	"reflect"
	"strings"
	"testing"

	"icehouse/api"
)

// Numbers that are far outside all bounds.
const (
	huge  = int(^uint(0) >> 1)
	least = -huge - 1
)

// none: the rule of a new bucket.
func none() api.Rule { return api.Rule{Freeze: -1, Drop: -1} }

// rich state: three buckets, versions of all tiers, markers, uploads, a queue, and volumes that were given up; made anew each time.
func rich() api.State {
	return api.State{
		Next:  20,
		Clock: 100,
		Buckets: []api.Bucket{
			{Name: "a", Mode: api.Plain, Rule: none()},
			{Name: "b", Mode: api.Enabled, Rule: api.Rule{Prefix: "y/", Freeze: 3, Drop: 9}},
			{Name: "d", Mode: api.Suspended, Rule: none()},
		},
		Versions: []api.Version{
			{Id: 2, Bucket: "a", Key: "x", Null: true, Size: 65, Time: 100, Tier: api.Hot, Sectors: []int{7, 3}},
			{Id: 3, Bucket: "b", Key: "x", Tier: api.Hot},
			{Id: 5, Bucket: "b", Key: "x", Size: 64, Time: 4, Tier: api.Cold, Volume: 1, At: 10},
			{Id: 6, Bucket: "b", Key: "y/1", Size: 130, Time: 5, Tier: api.Warm, Sectors: []int{0, 199, 1}, Volume: 3, At: 4000, Until: 103},
			{Id: 8, Bucket: "d", Key: "x", Null: true, Marker: true, Time: 6},
			{Id: 9, Bucket: "d", Key: "x", Size: 1, Time: 7, Tier: api.Cold, Volume: 7},
			{Id: 11, Bucket: "d", Key: "y/1", Null: true, Size: 600, Time: 8, Tier: api.Cold, At: 70},
			{Id: 13, Bucket: "d", Key: "z", Marker: true, Time: 9},
		},
		Uploads: []api.Upload{
			{Id: 4, Bucket: "a", Key: "x", Parts: []api.Part{{N: 2, Size: 65, Sectors: []int{11, 10}}, {N: 4}, {N: 5, Size: 1, Sectors: []int{12}}}},
			{Id: 12, Bucket: "b", Key: "w"},
		},
		Queue: []api.Ask{{Version: 9, Days: 1, Class: 1}, {Version: 5, Days: 1000, Class: 2}, {Version: 11, Days: 7}},
		Gone:  []int{2, 5},
	}
}

// hot, cold, warm: the places in rich of such versions, and of a marker.
const (
	hot    = 0
	cold   = 2
	warm   = 3
	marker = 4
)

// with: a rich state that is changed.
func with(change func(s *api.State)) api.State {
	s := rich()
	change(&s)
	return s
}

// crowded: a state with a bucket, and so many versions of keys, markers, from 1 on.
func crowded(many int) api.State {
	s := api.State{Next: many + 1, Buckets: []api.Bucket{{Name: "a", Rule: none()}}}
	for i := range many {
		s.Versions = append(s.Versions, api.Version{Id: i + 1, Bucket: "a", Key: "k" + fmt.Sprint(i), Marker: true})
	}
	return s
}

// frozen: a state with a bucket, and so many versions that are cold, from 1 on; the first ones are asked for.
func frozen(many, asked int) api.State {
	s := crowded(many)
	for i := range many {
		s.Versions[i].Marker = false
		s.Versions[i].Tier = api.Cold
	}
	for i := range asked {
		s.Queue = append(s.Queue, api.Ask{Version: i + 1, Days: 1})
	}
	return s
}

// numbers from 0 to below many.
func numbers(many int) []int {
	l := make([]int, many)
	for i := range l {
		l[i] = i
	}
	return l
}

// text of a value: lists without elements are the same, nil or not.
func text(x any) string { return fmt.Sprintf("%+v", x) }

// applies: the record makes this state of that one, and leaves what it was given as it was.
func applies(t *testing.T, what string, s api.State, r api.Record, want api.State) {
	t.Helper()
	state, record := text(s), text(r)
	got, e := Apply(s, r)
	if e != api.OK {
		t.Errorf("%s: refused: %v", what, e)
	} else if text(got) != text(want) {
		t.Errorf("%s:\ngot  %s\nwant %s", what, text(got), text(want))
	}
	if text(s) != state || text(r) != record {
		t.Errorf("%s: what was handed in is changed", what)
	}
}

// refuses: the record is refused with this error, and nothing is told beside it.
func refuses(t *testing.T, what string, s api.State, r api.Record, want api.Errno) {
	t.Helper()
	state, record := text(s), text(r)
	got, e := Apply(s, r)
	if e != want {
		t.Errorf("%s: got %v, want %v", what, e, want)
	}
	if text(got) != text(api.State{}) {
		t.Errorf("%s: a state beside an error: %s", what, text(got))
	}
	if text(s) != state || text(r) != record {
		t.Errorf("%s: what was handed in is changed", what)
	}
}

// memory of a list, spare room and all: from where, to where. Of lists in what a value is made of, too.
type memory struct {
	name     string
	from, to uintptr
}

// memories: of all lists in a value, and in the spare room of its lists.
func memories(name string, x any) []memory {
	var out []memory
	var walk func(name string, v reflect.Value)
	walk = func(name string, v reflect.Value) {
		switch v.Kind() {
		case reflect.Struct:
			for i := range v.NumField() {
				walk(name+"."+v.Type().Field(i).Name, v.Field(i))
			}
		case reflect.Slice:
			size := v.Type().Elem().Size() * uintptr(v.Cap())
			if size > 0 {
				out = append(out, memory{name, v.Pointer(), v.Pointer() + size})
			}
			whole := v.Slice(0, v.Cap())
			for i := range whole.Len() {
				walk(fmt.Sprintf("%s[%d]", name, i), whole.Index(i))
			}
		}
	}
	walk(name, reflect.ValueOf(x))
	return out
}

// apart: no two of these lists share memory. (The values are handed in, so that none of them is gone before.)
func apart(t *testing.T, what string, l ...any) {
	t.Helper()
	var all []memory
	for i, x := range l {
		all = append(all, memories(fmt.Sprintf("%d", i), x)...)
	}
	for i, a := range all {
		for _, b := range all[:i] {
			if a.from < b.to && b.from < a.to {
				t.Errorf("%s: %s and %s share memory", what, a.name, b.name)
			}
		}
	}
}

// roomy: a value with spare room behind each of its lists, full of marks.
func roomy[T any](x T) T {
	var walk func(v reflect.Value)
	walk = func(v reflect.Value) {
		switch v.Kind() {
		case reflect.Struct:
			for i := range v.NumField() {
				walk(v.Field(i))
			}
		case reflect.Slice:
			many := v.Len()
			l := reflect.MakeSlice(v.Type(), many+5, many+5)
			reflect.Copy(l, v)
			for i := range l.Len() {
				if i >= many {
					mark(l.Index(i))
				} else {
					walk(l.Index(i))
				}
			}
			v.Set(l.Slice(0, many))
		}
	}
	walk(reflect.ValueOf(&x).Elem())
	return x
}

// mark a value: all numbers of it, and one list of each kind.
func mark(v reflect.Value) {
	switch v.Kind() {
	case reflect.Int:
		v.SetInt(777)
	case reflect.String:
		v.SetString("mark")
	case reflect.Struct:
		for i := range v.NumField() {
			mark(v.Field(i))
		}
	case reflect.Slice:
		l := reflect.MakeSlice(v.Type(), 1, 1)
		mark(l.Index(0))
		v.Set(l)
	}
}

// whole text of a value, with the spare room of its lists.
func whole(x any) string {
	var b strings.Builder
	var walk func(v reflect.Value)
	walk = func(v reflect.Value) {
		switch v.Kind() {
		case reflect.Struct:
			for i := range v.NumField() {
				walk(v.Field(i))
			}
		case reflect.Slice:
			l := v.Slice(0, v.Cap())
			fmt.Fprintf(&b, "[%d/%d:", v.Len(), l.Len())
			for i := range l.Len() {
				walk(l.Index(i))
			}
			b.WriteString("]")
		default:
			fmt.Fprintf(&b, "%v ", v)
		}
	}
	walk(reflect.ValueOf(x))
	return b.String()
}
