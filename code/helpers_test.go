package code

import (
	"fmt"
	"reflect"
	"strings"
	"testing"

	"icehouse/api"
)

// Numbers that are far outside all bounds.
const (
	huge  = int(^uint(0) >> 1)
	least = -huge - 1
)

// join bytes: a number is one of them, a text all of its own, a list the bytes of each.
func join(l ...any) []byte {
	var b []byte
	for _, x := range l {
		switch x := x.(type) {
		case int:
			b = append(b, byte(x))
		case string:
			b = append(b, x...)
		case []byte:
			b = append(b, x...)
		}
	}
	return b
}

// full records: of each kind one, and its bytes; each field has bytes that differ.
func full() []struct {
	record api.Record
	bytes  []byte
} {
	return []struct {
		record api.Record
		bytes  []byte
	}{
		{api.Record{Kind: api.AddBucket, Name: "photos"}, join(1, 6, "photos")},
		{api.Record{Kind: api.SetMode, Name: "b", N: 0x01020304}, join(2, 1, "b", 1, 2, 3, 4)},
		{
			api.Record{Kind: api.SetRule, Name: "b", Rule: api.Rule{Prefix: "y/", Freeze: 0x01020303, Drop: 0x05060707}},
			join(3, 1, "b", 2, "y/", 1, 2, 3, 4, 5, 6, 7, 8),
		},
		{
			api.Record{Kind: api.AddVersion, Version: version()},
			join(4, versionBytes()),
		},
		{api.Record{Kind: api.DropOne, Id: 0x010203}, join(5, 1, 2, 3)},
		{api.Record{Kind: api.Freeze, Id: 0x010203, Volume: 4, At: 0x0506}, join(6, 1, 2, 3, 4, 5, 6)},
		{api.Record{Kind: api.AddAsk, Ask: api.Ask{Version: 0x010203, Days: 0x0405, Class: 6}}, join(7, 1, 2, 3, 4, 5, 6)},
		{api.Record{Kind: api.Thaw, Id: 0x010203, Sectors: []int{9, 255, 8}, N: 0x04050607}, join(8, 1, 2, 3, 4, 5, 6, 7, 3, 9, 255, 8)},
		{api.Record{Kind: api.Chill, Id: 0x010203}, join(9, 1, 2, 3)},
		{api.Record{Kind: api.AddUpload, Id: 0x010203, Name: "b", Key: "key"}, join(10, 1, 2, 3, 1, "b", 3, "key")},
		{
			api.Record{Kind: api.AddPart, Id: 0x010203, Part: api.Part{N: 4, Size: 0x0506, Sectors: []int{8, 7}}},
			join(11, 1, 2, 3, 4, 5, 6, 2, 8, 7),
		},
		{api.Record{Kind: api.DropUpload, Id: 0x010203}, join(12, 1, 2, 3)},
		{api.Record{Kind: api.Pass, N: 0x01020304}, join(13, 1, 2, 3, 4)},
		{api.Record{Kind: api.GiveUp, Volume: 7}, join(14, 7)},
	}
}

// version of which each field has bytes that differ.
func version() api.Version {
	return api.Version{
		Id: 0x010203, Bucket: "b", Key: "key", Null: true, Size: 0x0405, Time: 0x06070809, Tier: 10,
		Sectors: []int{20, 0, 255}, Volume: 11, At: 0x0c0d, Until: 0x0e0f1011,
	}
}

// versionBytes: those of that version.
func versionBytes() []byte {
	return join(1, 2, 3, 1, "b", 3, "key", 1, 0, 4, 5, 6, 7, 8, 9, 10, 3, 20, 0, 255, 11, 12, 13, 14, 15, 16, 17)
}

// rich state: buckets of all modes, versions of all tiers, a marker, uploads, a queue, and volumes that were given up; made anew each time.
func rich() api.State {
	return api.State{
		Next:  0x0a0b0c,
		Clock: 0x01020304,
		Buckets: []api.Bucket{
			{Name: "a", Mode: api.Plain, Rule: api.Rule{Freeze: -1, Drop: -1}},
			{Name: "bb", Mode: api.Enabled, Rule: api.Rule{Prefix: "y/", Freeze: 0x01020303, Drop: 255}},
			{Name: "d", Mode: api.Suspended, Rule: api.Rule{Freeze: 0, Drop: -1}},
		},
		Versions: []api.Version{
			{Id: 2, Bucket: "a", Key: "x", Null: true, Size: 65, Time: 0x01020304, Tier: api.Hot, Sectors: []int{7, 3}},
			{Id: 0x0102, Bucket: "bb", Key: "y/1", Size: 0x0102, Tier: api.Cold, Volume: 6, At: 0x0102},
			{Id: 0x010203, Bucket: "bb", Key: "y/1", Size: 64, Time: 5, Tier: api.Warm, Sectors: []int{199}, Volume: 3, At: 4000, Until: 0x01020306},
			{Id: 0x010204, Bucket: "d", Key: "x", Marker: true, Time: 6},
		},
		Uploads: []api.Upload{
			{Id: 4, Bucket: "a", Key: "x", Parts: []api.Part{{N: 2, Size: 65, Sectors: []int{11, 10}}, {N: 4}}},
			{Id: 0x090807, Bucket: "bb", Key: "ww"},
		},
		Queue: []api.Ask{{Version: 0x0102, Days: 1000, Class: 2}},
		Gone:  []int{2, 5},
	}
}

// richBytes: those of the rich state, one thing behind the other.
func richBytes() []byte {
	return join(
		10, 11, 12, 1, 2, 3, 4,
		3,
		1, "a", 0, 0, 0, 0, 0, 0, 0, 0, 0, 0,
		2, "bb", 1, 2, "y/", 1, 2, 3, 4, 0, 0, 1, 0,
		1, "d", 2, 0, 0, 0, 0, 1, 0, 0, 0, 0,
		4,
		0, 0, 2, 1, "a", 1, "x", 1, 0, 0, 65, 1, 2, 3, 4, 1, 2, 7, 3, 0, 0, 0, 0, 0, 0, 0,
		0, 1, 2, 2, "bb", 3, "y/1", 0, 0, 1, 2, 0, 0, 0, 0, 2, 0, 6, 1, 2, 0, 0, 0, 0,
		1, 2, 3, 2, "bb", 3, "y/1", 0, 0, 0, 64, 0, 0, 0, 5, 3, 1, 199, 3, 15, 160, 1, 2, 3, 6,
		1, 2, 4, 1, "d", 1, "x", 0, 1, 0, 0, 0, 0, 0, 6, 0, 0, 0, 0, 0, 0, 0, 0, 0,
		2,
		0, 0, 4, 1, "a", 1, "x", 2, 2, 0, 65, 2, 11, 10, 4, 0, 0, 0,
		9, 8, 7, 2, "bb", 2, "ww", 0,
		1,
		0, 1, 2, 3, 232, 2,
		2, 2, 5,
	)
}

// text of a value: lists without elements are the same, nil or not.
func text(x any) string { return fmt.Sprintf("%+v", x) }

// memory of a list, spare room and all: from where, to where. Of lists in what a value is made of, too.
type memory struct {
	name     string
	from, to uintptr
}

// memories: of all lists in a value, and in the spare room of its lists.
func memories(name string, x any) []memory {
	var out []memory
	var walk func(name string, v reflect.Value)
	walk = func(name string, v reflect.Value) {
		switch v.Kind() {
		case reflect.Struct:
			for i := range v.NumField() {
				walk(name+"."+v.Type().Field(i).Name, v.Field(i))
			}
		case reflect.Slice:
			size := v.Type().Elem().Size() * uintptr(v.Cap())
			if size > 0 {
				out = append(out, memory{name, v.Pointer(), v.Pointer() + size})
			}
			whole := v.Slice(0, v.Cap())
			for i := range whole.Len() {
				walk(fmt.Sprintf("%s[%d]", name, i), whole.Index(i))
			}
		}
	}
	walk(name, reflect.ValueOf(x))
	return out
}

// apart: no two of these lists share memory. (The values are handed in, so that none of them is gone before.)
func apart(t *testing.T, what string, l ...any) {
	t.Helper()
	var all []memory
	for i, x := range l {
		all = append(all, memories(fmt.Sprintf("%d", i), x)...)
	}
	for i, a := range all {
		for _, b := range all[:i] {
			if a.from < b.to && b.from < a.to {
				t.Errorf("%s: %s and %s share memory", what, a.name, b.name)
			}
		}
	}
}

// roomy: a value with spare room behind each of its lists, full of marks.
func roomy[T any](x T) T {
	var walk func(v reflect.Value)
	walk = func(v reflect.Value) {
		switch v.Kind() {
		case reflect.Struct:
			for i := range v.NumField() {
				walk(v.Field(i))
			}
		case reflect.Slice:
			many := v.Len()
			l := reflect.MakeSlice(v.Type(), many+5, many+5)
			reflect.Copy(l, v)
			for i := range l.Len() {
				if i >= many {
					mark(l.Index(i))
				} else {
					walk(l.Index(i))
				}
			}
			v.Set(l.Slice(0, many))
		}
	}
	walk(reflect.ValueOf(&x).Elem())
	return x
}

// mark a value: all numbers of it, and one list of each kind.
func mark(v reflect.Value) {
	switch v.Kind() {
	case reflect.Int:
		v.SetInt(777)
	case reflect.String:
		v.SetString("mark")
	case reflect.Struct:
		for i := range v.NumField() {
			mark(v.Field(i))
		}
	case reflect.Slice:
		l := reflect.MakeSlice(v.Type(), 1, 1)
		mark(l.Index(0))
		v.Set(l)
	}
}

// whole text of a value, with the spare room of its lists.
func whole(x any) string {
	var b strings.Builder
	var walk func(v reflect.Value)
	walk = func(v reflect.Value) {
		switch v.Kind() {
		case reflect.Struct:
			for i := range v.NumField() {
				walk(v.Field(i))
			}
		case reflect.Slice:
			l := v.Slice(0, v.Cap())
			fmt.Fprintf(&b, "[%d/%d:", v.Len(), l.Len())
			for i := range l.Len() {
				walk(l.Index(i))
			}
			b.WriteString("]")
		default:
			fmt.Fprintf(&b, "%v ", v)
		}
	}
	walk(reflect.ValueOf(x))
	return b.String()
}
