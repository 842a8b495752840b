package store

import (
	"fmt"
	"reflect"
	"strconv"
	"strings"
	"testing"

	"icehouse/api"
	"icehouse/code"
	"icehouse/dev"
	"icehouse/hot"
	"icehouse/ring"
)

// Numbers that are far outside all bounds.
const (
	huge  = int(^uint(0) >> 1)
	least = -huge - 1
)

// geo: nine sectors for payloads, and three volumes of 400 bytes.
func geo() api.Geometry {
	return api.Geometry{Ring: 8, Area: 12, Hot: 9, Volume: 400, Volumes: 3}
}

// roomy: no limit of it is met by what the tests do.
func roomy() api.Geometry {
	return api.Geometry{Ring: 60, Area: 80, Hot: 200, Volume: 4000, Volumes: 8}
}

// Words for what is refused.
var words = [...]string{"ok", "size", "range", "kind", "form", "short", "none", "twice", "full", "state", "down", "cold", "warm", "wait", "idle"}

// Words for tiers.
var tiers = [...]string{"marker", "hot", "cold", "warm"}

// text of so many bytes, another one for each letter; no two sectors of it are the same.
func text(n int, letter byte) string {
	b := make([]byte, n)
	for i := range b {
		b[i] = 'a' + byte((i+i/api.Sector+int(letter-'a'))%26)
	}
	return string(b)
}

// body that is meant by a word: 65*c is one of 65 bytes, - one without any.
func body(w string) string {
	if n, letter, long := strings.Cut(w, "*"); long {
		many, _ := strconv.Atoi(n)
		return text(many, letter[0])
	}
	return word(w)
}

// word of a line: - is an empty one.
func word(w string) string {
	if w == "-" {
		return ""
	}
	return w
}

// short: a word for a body.
func short(b string) string {
	if len(b) > 8 {
		for letter := byte('a'); letter <= 'z'; letter++ {
			if b == text(len(b), letter) {
				return strconv.Itoa(len(b)) + "*" + string(letter)
			}
		}
	}
	return b
}

// kinds of acts by their words.
var kinds = map[string]int{
	"bucket": api.MakeBucket, "mode": api.PutMode, "rule": api.PutRule, "put": api.Put, "get": api.Get, "delete": api.Delete,
	"erase": api.Erase, "list": api.List, "versions": api.Versions, "begin": api.Begin, "send": api.Send, "complete": api.Complete,
	"abort": api.Abort, "archive": api.Archive, "restore": api.Restore, "tick": api.Tick, "pack": api.Pack, "serve": api.Serve,
	"sweep": api.Sweep, "compact": api.Compact, "checkpoint": api.Checkpoint, "arm": api.Arm, "recover": api.Recover, "kind": 99,
}

// act that a line tells, word by word; words at its end may be missing.
func act(line string) api.Act {
	w := append(strings.Fields(line), "", "", "", "", "", "")
	n := func(i int) int { k, _ := strconv.Atoi(w[i]); return k }
	a := api.Act{Kind: kinds[w[0]]}
	switch a.Kind {
	case 0:
		panic("no such act: " + line)
	case api.PutMode:
		a.Name, a.N = word(w[1]), n(2)
	case api.PutRule:
		a.Name, a.Rule = word(w[1]), api.Rule{Prefix: word(w[2]), Freeze: n(3), Drop: n(4)}
	case api.Put:
		a.Name, a.Key, a.Body = word(w[1]), word(w[2]), body(w[3])
	case api.List:
		a.Name, a.Key, a.Body, a.After, a.N = word(w[1]), word(w[2]), word(w[3]), word(w[4]), n(5)
	case api.Send:
		a.N, a.M, a.Body = n(1), n(2), body(w[3])
	case api.Complete, api.Abort, api.Tick, api.Arm:
		a.N = n(1)
	case api.Recover:
		for _, c := range word(w[1]) {
			a.Keep = append(a.Keep, c == 'y')
		}
		a.M = n(2)
	default:
		a.Name, a.Key, a.N, a.M, a.L = word(w[1]), word(w[2]), n(3), n(4), n(5)
	}
	return a
}

// said: an answer in words.
func said(a api.Answer) string {
	var l []string
	if a.Code != api.OK {
		l = append(l, words[a.Code])
	}
	if a.N != 0 {
		l = append(l, strconv.Itoa(a.N))
	}
	if a.Tier != 0 || a.Time != 0 {
		l = append(l, fmt.Sprintf("%s@%d", tiers[a.Tier], a.Time))
	}
	if a.Body != "" {
		l = append(l, "="+short(a.Body))
	}
	for _, r := range a.Rows {
		switch {
		case r == api.Row{Key: r.Key, Common: true}:
			l = append(l, r.Key+"*")
		default:
			l = append(l, fmt.Sprintf("%s#%d/%d/%s/%v", r.Key, r.Id, r.Size, tiers[r.Tier], r.Latest))
		}
	}
	if a.More {
		l = append(l, "more")
	}
	if len(l) == 0 {
		return "ok"
	}
	return strings.Join(l, " ")
}

// plays: lines of acts, and what is to be answered to each; what comes of them is told.
func plays(t *testing.T, g api.Geometry, lines string) api.Outcome {
	t.Helper()
	var l []api.Act
	var told, want []string
	for _, line := range strings.Split(strings.TrimSpace(lines), "\n") {
		a, answer, is := strings.Cut(strings.TrimSpace(line), " => ")
		if !is {
			continue
		}
		l, told, want = append(l, act(a)), append(told, a), append(want, answer)
	}
	o, e := Run(g, l)
	if e != api.OK || len(o.Answers) != len(l) {
		t.Fatalf("%v, %d answers to %d acts", e, len(o.Answers), len(l))
	}
	for i, a := range o.Answers {
		if got := said(a); got != want[i] {
			t.Errorf("act %d, %s: %s, want %s", i, told[i], got, want[i])
		}
	}
	return o
}

// show values as text: lists without elements are the same, nil or not.
func show(x ...any) string { return fmt.Sprintf("%+v", x) }

// same: what is told and what is wanted.
func same(t *testing.T, what string, got, want any) {
	t.Helper()
	if show(got) != show(want) {
		t.Errorf("%s:\n%+v, want\n%+v", what, got, want)
	}
}

// hand: devices and a journal, to which the lower layers do by hand what acts should come to.
type hand struct {
	t *testing.T
	g api.Geometry
	d api.Devices
	j api.Journal
}

// newHand: formatted.
func newHand(t *testing.T, g api.Geometry) *hand {
	t.Helper()
	d, e := dev.New(g)
	h := &hand{t: t, g: g}
	h.good(e)
	h.d, h.j, e = ring.Format(g, d)
	h.good(e)
	return h
}

func (h *hand) good(e api.Errno) {
	h.t.Helper()
	if e != api.OK && e != api.ErrDown {
		h.t.Fatalf("by hand: %v", e)
	}
}

// commit records together.
func (h *hand) commit(l ...api.Record) {
	h.t.Helper()
	b, e := code.Encode(l)
	h.good(e)
	h.d, h.j, e = ring.Commit(h.g, h.d, h.j, b)
	h.good(e)
}

// save a state.
func (h *hand) save(s api.State) {
	h.t.Helper()
	b, e := code.EncodeState(s)
	h.good(e)
	h.d, h.j, e = ring.Save(h.g, h.d, h.j, b)
	h.good(e)
}

// write a body in sectors.
func (h *hand) write(b string, sectors ...int) {
	h.t.Helper()
	var e api.Errno
	h.d, e = hot.Write(h.g, h.d, sectors, []byte(b))
	h.good(e)
}

// tape: bytes at the end of a volume, which are marked.
func (h *hand) tape(v int, b []byte) {
	h.t.Helper()
	var e api.Errno
	h.d, e = dev.Append(h.g, h.d, v, b)
	h.good(e)
	h.d, e = dev.Mark(h.g, h.d)
	h.good(e)
}

// take a volume away.
func (h *hand) take(v int) {
	h.t.Helper()
	var e api.Errno
	h.d, e = dev.Take(h.g, h.d, v)
	h.good(e)
}

// same devices, and the same journal?
func (h *hand) same(o api.Outcome) {
	h.t.Helper()
	same(h.t, "the devices", o.Devices, h.d)
	same(h.t, "the journal", o.Journal, h.j)
}

// bucket record.
func bucketRecord(name string) api.Record { return api.Record{Kind: api.AddBucket, Name: name} }

// version record.
func versionRecord(v api.Version) api.Record { return api.Record{Kind: api.AddVersion, Version: v} }

// hotOne: the version that a put in a plain bucket a, under the key k, at the time 0, comes to.
func hotOne(id, size int, sectors ...int) api.Version {
	return api.Version{Id: id, Bucket: "a", Key: "k", Null: true, Size: size, Tier: api.Hot, Sectors: sectors}
}

// fill: lines of puts without bytes in the bucket a, from the Id on up to another.
func fill(from, to int) string {
	s := ""
	for id := from; id <= to; id++ {
		s += fmt.Sprintf("put a k - => %d\n", id)
	}
	return s
}

// versionOf a state, by its Id.
func versionOf(t *testing.T, s api.State, id int) api.Version {
	t.Helper()
	for _, v := range s.Versions {
		if v.Id == id {
			return v
		}
	}
	t.Fatalf("there is no version %d in %+v", id, s)
	return api.Version{}
}

// memory of all lists in a value, spare room and all.
func memory(x reflect.Value, add func(from, to uintptr)) {
	switch x.Kind() {
	case reflect.Slice:
		if size := x.Type().Elem().Size(); x.Cap() > 0 && size > 0 {
			add(x.Pointer(), x.Pointer()+uintptr(x.Cap())*size)
		}
		for i := range x.Len() {
			memory(x.Index(i), add)
		}
	case reflect.Struct:
		for i := range x.NumField() {
			memory(x.Field(i), add)
		}
	}
}
