package code

import (
	"fmt"
	"strings"
	"testing"

	"icehouse/api"
)

// records of each kind, with nothing in them.
func bare() []api.Record {
	var l []api.Record
	for kind := 1; kind <= 14; kind++ {
		l = append(l, api.Record{Kind: kind})
	}
	return l
}

// TestCheckRecord (P4.2): a record of each kind can be written, full and with nothing in it.
func TestCheckRecord(t *testing.T) {
	for _, c := range full() {
		if e := CheckRecord(c.record); e != api.OK {
			t.Errorf("%+v: %v", c.record, e)
		}
	}
	for _, r := range bare() {
		if e := CheckRecord(r); e != api.OK {
			t.Errorf("%+v: %v", r, e)
		}
		r.Sectors, r.Version.Sectors, r.Part.Sectors = []int{}, []int{}, make([]int, 0, 3)
		if e := CheckRecord(r); e != api.OK {
			t.Errorf("kind %d, with lists without elements: %v", r.Kind, e)
		}
	}
}

// TestKinds (P4.2): there are fourteen; that there is no such one is told ahead of all else.
func TestKinds(t *testing.T) {
	for _, kind := range []int{least, -14, -1, 0, 15, 16, 255, 256, 257, 1 << 32, huge} {
		for _, r := range []api.Record{
			{Kind: kind},
			{Kind: kind, N: -1},
			{Kind: kind, Name: strings.Repeat("a", 256)},
			{Kind: kind, Sectors: []int{256}},
		} {
			if e := CheckRecord(r); e != api.ErrKind {
				t.Errorf("kind %d: %v", kind, e)
			}
		}
	}
}

// numbers of a record: the kind that has it, its bounds, and how it is set.
func numbers() []struct {
	what        string
	kind        int
	least, most int
	set         func(r *api.Record, n int)
} {
	return []struct {
		what        string
		kind        int
		least, most int
		set         func(r *api.Record, n int)
	}{
		{"Id", api.DropOne, 0, 1<<24 - 1, func(r *api.Record, n int) { r.Id = n }},
		{"N", api.Pass, 0, 1<<32 - 1, func(r *api.Record, n int) { r.N = n }},
		{"Volume", api.GiveUp, 0, 255, func(r *api.Record, n int) { r.Volume = n }},
		{"At", api.Freeze, 0, 1<<16 - 1, func(r *api.Record, n int) { r.At = n }},
		{"Rule.Freeze", api.SetRule, -1, 1<<32 - 2, func(r *api.Record, n int) { r.Rule.Freeze = n }},
		{"Rule.Drop", api.SetRule, -1, 1<<32 - 2, func(r *api.Record, n int) { r.Rule.Drop = n }},
		{"Version.Id", api.AddVersion, 0, 1<<24 - 1, func(r *api.Record, n int) { r.Version.Id = n }},
		{"Version.Size", api.AddVersion, 0, 1<<16 - 1, func(r *api.Record, n int) { r.Version.Size = n }},
		{"Version.Time", api.AddVersion, 0, 1<<32 - 1, func(r *api.Record, n int) { r.Version.Time = n }},
		{"Version.Tier", api.AddVersion, 0, 255, func(r *api.Record, n int) { r.Version.Tier = n }},
		{"Version.Volume", api.AddVersion, 0, 255, func(r *api.Record, n int) { r.Version.Volume = n }},
		{"Version.At", api.AddVersion, 0, 1<<16 - 1, func(r *api.Record, n int) { r.Version.At = n }},
		{"Version.Until", api.AddVersion, 0, 1<<32 - 1, func(r *api.Record, n int) { r.Version.Until = n }},
		{"Ask.Version", api.AddAsk, 0, 1<<24 - 1, func(r *api.Record, n int) { r.Ask.Version = n }},
		{"Ask.Days", api.AddAsk, 0, 1<<16 - 1, func(r *api.Record, n int) { r.Ask.Days = n }},
		{"Ask.Class", api.AddAsk, 0, 255, func(r *api.Record, n int) { r.Ask.Class = n }},
		{"Part.N", api.AddPart, 0, 255, func(r *api.Record, n int) { r.Part.N = n }},
		{"Part.Size", api.AddPart, 0, 1<<16 - 1, func(r *api.Record, n int) { r.Part.Size = n }},
	}
}

// TestNumbers (P4.2): each from its least to its most; outside it is ErrRange in records of all kinds, have they it or not, ahead of sizes and of what they do not have.
func TestNumbers(t *testing.T) {
	for _, c := range numbers() {
		for _, n := range []int{c.least, 0, 1, c.most} {
			r := api.Record{Kind: c.kind}
			c.set(&r, n)
			if e := CheckRecord(r); e != api.OK {
				t.Errorf("%s %d: %v", c.what, n, e)
			}
			if b, e := Encode([]api.Record{r}); e != api.OK {
				t.Errorf("Encode: %s %d: %v", c.what, n, e)
			} else if l, e := Decode(b); e != api.OK || text(l) != text([]api.Record{r}) {
				t.Errorf("%s %d: Decode tells %+v, %v", c.what, n, l, e)
			}
		}
		for _, n := range []int{least, c.least - 1, c.most + 1, huge} {
			for _, r := range bare() {
				c.set(&r, n)
				if e := CheckRecord(r); e != api.ErrRange {
					t.Errorf("kind %d, %s %d: %v", r.Kind, c.what, n, e)
				}
				r.Name, r.Sectors = strings.Repeat("a", 256), []int{-1}
				if e := CheckRecord(r); e != api.ErrRange {
					t.Errorf("kind %d, %s %d, and too long: %v", r.Kind, c.what, n, e)
				}
			}
		}
	}
}

// sizes of a record: the kind that has a text or a list, and how it gets so many.
func sizes() []struct {
	what string
	kind int
	set  func(r *api.Record, many int)
} {
	a := func(many int) string { return strings.Repeat("a", many) }
	l := func(many int) []int { return make([]int, many) }
	return []struct {
		what string
		kind int
		set  func(r *api.Record, many int)
	}{
		{"Name", api.AddBucket, func(r *api.Record, many int) { r.Name = a(many) }},
		{"Key", api.AddUpload, func(r *api.Record, many int) { r.Key = a(many) }},
		{"Rule.Prefix", api.SetRule, func(r *api.Record, many int) { r.Rule.Prefix = a(many) }},
		{"Version.Bucket", api.AddVersion, func(r *api.Record, many int) { r.Version.Bucket = a(many) }},
		{"Version.Key", api.AddVersion, func(r *api.Record, many int) { r.Version.Key = a(many) }},
		{"Version.Sectors", api.AddVersion, func(r *api.Record, many int) { r.Version.Sectors = l(many) }},
		{"Part.Sectors", api.AddPart, func(r *api.Record, many int) { r.Part.Sectors = l(many) }},
		{"Sectors", api.Thaw, func(r *api.Record, many int) { r.Sectors = l(many) }},
	}
}

// TestSizes (P4.2): texts and lists of up to 255; more is ErrSize in records of all kinds, have they it or not.
func TestSizes(t *testing.T) {
	for _, c := range sizes() {
		for _, many := range []int{0, 1, 254, 255} {
			r := api.Record{Kind: c.kind}
			c.set(&r, many)
			if e := CheckRecord(r); e != api.OK {
				t.Errorf("%s of %d: %v", c.what, many, e)
			}
			if b, e := Encode([]api.Record{r}); e != api.OK {
				t.Errorf("Encode: %s of %d: %v", c.what, many, e)
			} else if l, e := Decode(b); e != api.OK || text(l) != text([]api.Record{r}) {
				t.Errorf("%s of %d: Decode tells %+v, %v", c.what, many, l, e)
			}
		}
		for _, many := range []int{256, 257, 512, 70000} {
			for _, r := range bare() {
				c.set(&r, many)
				if e := CheckRecord(r); e != api.ErrSize {
					t.Errorf("kind %d, %s of %d: %v", r.Kind, c.what, many, e)
				}
			}
		}
	}
}

// TestTextsAreBytes (P4.2): a text's length is told in bytes, whatever they are.
func TestTextsAreBytes(t *testing.T) {
	if e := CheckRecord(api.Record{Kind: api.AddBucket, Name: strings.Repeat("é", 128)}); e != api.ErrSize {
		t.Errorf("128 runes of two bytes: %v", e)
	}
	if e := CheckRecord(api.Record{Kind: api.AddBucket, Name: "\x00\xff é"}); e != api.OK {
		t.Errorf("bytes that no name may have: %v", e)
	}
}

// TestSectorNumbers (P4.2): each from 0 to 255; outside it is ErrSize in records of all kinds, wherever it stands.
func TestSectorNumbers(t *testing.T) {
	sets := []func(r *api.Record, l []int){
		func(r *api.Record, l []int) { r.Sectors = l },
		func(r *api.Record, l []int) { r.Version.Sectors = l },
		func(r *api.Record, l []int) { r.Part.Sectors = l },
	}
	for i, set := range sets {
		r := api.Record{Kind: []int{api.Thaw, api.AddVersion, api.AddPart}[i]}
		set(&r, []int{0, 255, 255, 0})
		if e := CheckRecord(r); e != api.OK {
			t.Errorf("kind %d, sectors 0 and 255: %v", r.Kind, e)
		}
		for _, n := range []int{least, -1, 256, huge} {
			for _, l := range [][]int{{n}, {1, n}, {n, 1}, {1, n, 2}} {
				for _, r := range bare() {
					set(&r, l)
					if e := CheckRecord(r); e != api.ErrSize {
						t.Errorf("list %d, kind %d, sectors %v: %v", i, r.Kind, l, e)
					}
				}
			}
		}
	}
}

// TestForeignFields (P4.2): what a kind does not have, and is not empty, is ErrForm: each field of each kind, each part of it.
func TestForeignFields(t *testing.T) {
	fields := map[int]string{
		api.AddBucket: "Name", api.SetMode: "Name N", api.SetRule: "Name Rule", api.AddVersion: "Version", api.DropOne: "Id",
		api.Freeze: "Id Volume At", api.AddAsk: "Ask", api.Thaw: "Id Sectors N", api.Chill: "Id", api.AddUpload: "Id Name Key",
		api.AddPart: "Id Part", api.DropUpload: "Id", api.Pass: "N", api.GiveUp: "Volume",
	}
	for _, c := range foreign() {
		for _, r := range bare() {
			c.set(&r)
			want := api.ErrForm
			for _, f := range strings.Fields(fields[r.Kind]) {
				if f == strings.Split(c.what, ".")[0] {
					want = api.OK
				}
			}
			if e := CheckRecord(r); e != want {
				t.Errorf("kind %d with %s: %v, want %v", r.Kind, c.what, e, want)
			}
			if b, e := Encode([]api.Record{r}); e != want || (e != api.OK && len(b) > 0) {
				t.Errorf("Encode of kind %d with %s: %v, want %v", r.Kind, c.what, e, want)
			}
		}
	}
}

// foreign: how each part of a record comes to be not empty.
func foreign() []struct {
	what string
	set  func(r *api.Record)
} {
	type c = struct {
		what string
		set  func(r *api.Record)
	}
	var l []c
	for _, n := range numbers() {
		for _, x := range []int{1, n.most} {
			l = append(l, c{n.what, func(r *api.Record) { n.set(r, x) }})
		}
	}
	for _, n := range sizes() {
		for _, many := range []int{1, 255} {
			l = append(l, c{n.what, func(r *api.Record) { n.set(r, many) }})
		}
	}
	return append(l,
		c{"Rule.Freeze", func(r *api.Record) { r.Rule.Freeze = -1 }},
		c{"Rule.Drop", func(r *api.Record) { r.Rule.Drop = -1 }},
		c{"Version.Null", func(r *api.Record) { r.Version.Null = true }},
		c{"Version.Marker", func(r *api.Record) { r.Version.Marker = true }},
	)
}

// TestOrderOfErrors (P4.2): ErrRange, ErrSize, ErrForm, in this order, wherever in the record they stand.
func TestOrderOfErrors(t *testing.T) {
	long := strings.Repeat("a", 256)
	for i, c := range []struct {
		r    api.Record
		want api.Errno
	}{
		{api.Record{Kind: api.AddBucket, Name: long, At: -1}, api.ErrRange},
		{api.Record{Kind: api.AddBucket, Name: long, Part: api.Part{Size: 1 << 16}}, api.ErrRange},
		{api.Record{Kind: api.Thaw, Sectors: []int{256}, Rule: api.Rule{Drop: -2}}, api.ErrRange},
		{api.Record{Kind: api.Pass, Id: 1, Volume: 256}, api.ErrRange},
		{api.Record{Kind: api.Pass, Id: 1, Version: api.Version{Key: long}}, api.ErrSize},
		{api.Record{Kind: api.Pass, Id: 1, Sectors: []int{-1}}, api.ErrSize},
		{api.Record{Kind: api.AddBucket, Id: 1, Name: long}, api.ErrSize},
		{api.Record{Kind: api.Pass, Id: 1}, api.ErrForm},
	} {
		if e := CheckRecord(c.r); e != c.want {
			t.Errorf("case %d: %s", i, fmt.Sprint(e, ", want ", c.want))
		}
	}
}
