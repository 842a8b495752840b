package state

import (
	"reflect"
	"testing"

	"icehouse/api"
)

// die: numbers that look drawn, the same each time.
type die uint64

func (d *die) below(most int) int {
	*d = *d*6364136223846793005 + 1442695040888963407
	return int(uint64(*d>>33) % uint64(most))
}

// draw a value: small numbers mostly, some at bounds, some far ones; short lists and texts.
func (d *die) draw(v reflect.Value) {
	switch v.Kind() {
	case reflect.Int:
		wild := []int{-1, least, huge, api.MaxTime, api.MaxNumber, api.MaxHot, api.MaxVolumes}
		if n := d.below(60); n < len(wild) {
			v.SetInt(int64(wild[n]))
		} else {
			v.SetInt(int64(d.below(22)))
		}
	case reflect.Bool:
		v.SetBool(d.below(2) == 0)
	case reflect.String:
		v.SetString([]string{"a", "b", "d", "x", "y/1", "", " ", "far too long a name"}[d.below(8)])
	case reflect.Struct:
		for i := range v.NumField() {
			d.draw(v.Field(i))
		}
	case reflect.Slice:
		l := reflect.MakeSlice(v.Type(), d.below(3), 4)
		for i := range l.Len() {
			d.draw(l.Index(i))
		}
		v.Set(l)
	}
}

// TestDrawnStates: states of whatever numbers: each call ends, and what Check refuses all others do.
func TestDrawnStates(t *testing.T) {
	d := die(1)
	for range 20000 {
		var s api.State
		d.draw(reflect.ValueOf(&s).Elem())
		before, e := text(s), Check(s)
		if e != api.OK && e != api.ErrState {
			t.Fatalf("Check of %s: %v", before, e)
		}
		if _, free := Free(s, 5); free != e {
			t.Fatalf("Free of %s: %v, want %v", before, free, e)
		}
		if _, _, latest := Latest(s, "a", "x"); latest != e {
			t.Fatalf("Latest of %s: %v, want %v", before, latest, e)
		}
		if text(Copy(s)) != before || text(s) != before {
			t.Fatalf("Copy of %s: %s", before, text(Copy(s)))
		}
	}
}

// TestDrawnRecords: whatever record is applied, one behind the other, the state may be then, or nothing is told; no other state comes of it than that.
func TestDrawnRecords(t *testing.T) {
	d := die(2)
	s := rich()
	applied := 0
	for range 30000 {
		var r api.Record
		d.draw(reflect.ValueOf(&r).Elem())
		if d.below(2) == 0 {
			r.Id, r.Version.Id = s.Next, s.Next
		}
		before := text(s)
		got, e := Apply(s, r)
		if text(s) != before {
			t.Fatalf("%+v changes the state that was handed in", r)
		}
		if e != api.OK {
			if text(got) != text(api.State{}) {
				t.Fatalf("%+v: a state beside %v", r, e)
			}
			continue
		}
		if Check(got) != api.OK {
			t.Fatalf("%+v on %s: a state that may not be: %s", r, before, text(got))
		}
		applied++
		if s = got; d.below(50) == 0 {
			s = rich()
		}
	}
	if applied < 1000 {
		t.Errorf("only %d records were applied", applied)
	}
}
