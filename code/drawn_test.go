package code

import (
	"bytes"
	"reflect"
	"testing"

	"icehouse/api"
	"icehouse/state"
)

// die: numbers that look drawn, the same each time.
type die uint64

func (d *die) below(most int) int {
	*d = *d*6364136223846793005 + 1442695040888963407
	return int(uint64(*d>>33) % uint64(most))
}

// draw a value: small numbers mostly, some at bounds, some far ones; short lists and texts; much of it is left empty.
func (d *die) draw(v reflect.Value) {
	if v.Kind() != reflect.Struct && d.below(3) > 0 {
		return
	}
	switch v.Kind() {
	case reflect.Int:
		wild := []int{-1, least, huge, 255, 256, 1 << 16, 1 << 24, 1<<32 - 1, 1 << 32}
		if n := d.below(300); n < len(wild) {
			v.SetInt(int64(wild[n]))
		} else {
			v.SetInt(int64(d.below(15)))
		}
	case reflect.Bool:
		v.SetBool(d.below(2) == 0)
	case reflect.String:
		v.SetString([]string{"a", "b", "\x00\xff", "x", "y/1"}[d.below(5)])
	case reflect.Struct:
		if d.below(2) == 0 {
			return
		}
		for i := range v.NumField() {
			d.draw(v.Field(i))
		}
	case reflect.Slice:
		l := reflect.MakeSlice(v.Type(), d.below(3), 4)
		for i := range l.Len() {
			d.draw(l.Index(i))
		}
		v.Set(l)
	}
}

// TestDrawnRecords (P4.2 to P4.4): what CheckRecord lets through is encoded, and decoded it is the same; nothing else is.
func TestDrawnRecords(t *testing.T) {
	d := die(1)
	good := 0
	for range 100000 {
		var r api.Record
		d.draw(reflect.ValueOf(&r).Elem())
		if r.Kind == 0 {
			r.Kind = 1 + d.below(14)
		}
		b, e := Encode([]api.Record{r})
		if check := CheckRecord(r); e != check {
			t.Fatalf("%+v: CheckRecord %v, Encode %v", r, check, e)
		}
		if e != api.OK {
			if len(b) > 0 {
				t.Fatalf("%+v: bytes beside %v", r, e)
			}
			continue
		}
		good++
		if l, e := Decode(b); e != api.OK || text(l) != text([]api.Record{r}) {
			t.Fatalf("%+v: Decode tells %+v, %v", r, l, e)
		}
	}
	if good < 10000 {
		t.Errorf("only %d records were encoded", good)
	}
}

// TestDrawnBytes (P4.4, P4.6): whatever the bytes are each call ends, and what is decoded of them has these bytes.
func TestDrawnBytes(t *testing.T) {
	var all []byte
	for _, c := range full() {
		all = append(all, c.bytes...)
	}
	starts := [][]byte{join(14, all), richBytes(), join(0, 0, 1, 0, 0, 0, 0, 0, 0, 0, 0, 0), join(1, 14, 7)}
	d := die(2)
	records, states := 0, 0
	for range 50000 {
		b := bytes.Clone(starts[d.below(len(starts))])
		for range d.below(3) {
			b[d.below(len(b))] = byte([]int{0, 1, 2, 3, 5, 9, 14, 255, d.below(256)}[d.below(9)])
		}
		if d.below(5) == 0 {
			b = b[:d.below(len(b)+1)]
		}
		before := bytes.Clone(b)
		if l, e := Decode(b); e == api.OK {
			records++
			if c, e := Encode(l); e != api.OK || !bytes.Equal(b, c) {
				t.Fatalf("%v: Encode of what was decoded: %v, %v", b, c, e)
			}
		}
		if s, e := DecodeState(b); e == api.OK {
			states++
			if state.Check(s) != api.OK {
				t.Fatalf("%v: a state that may not be", b)
			}
			if c, e := EncodeState(s); e != api.OK || !bytes.Equal(b, c) {
				t.Fatalf("%v: EncodeState of what was decoded: %v, %v", b, c, e)
			}
		}
		if !bytes.Equal(b, before) {
			t.Fatalf("%v is changed", before)
		}
	}
	if records < 5000 || states < 5000 {
		t.Errorf("only %d records and %d states were decoded", records, states)
	}
}
