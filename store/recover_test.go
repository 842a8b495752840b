package store

import (
	"testing"

	"icehouse/api"
	"icehouse/dev"
	"icehouse/ring"
)

// TestTick: P8.15: the clock.
func TestTick(t *testing.T) {
	o := plays(t, geo(), `
		tick 0 => ok
		tick 5 => ok
		tick -1 => range
		tick 1073741819 => ok
		tick 0 => ok
		tick 1 => range
	`)
	same(t, "the state", o.State, api.State{Next: 1, Clock: api.MaxTime})
	if o.Journal.Next != 5 {
		t.Errorf("%+v", o.Journal)
	}
	for _, n := range []int{huge, least} {
		if o, e := Run(geo(), []api.Act{act("tick 5"), {Kind: api.Tick, N: n}}); e != api.OK || o.Answers[1].Code != api.ErrRange {
			t.Errorf("tick %d: %v, %+v", n, e, o.Answers)
		}
	}
}

// TestCheckpoint: P8.15: a snapshot of the state.
func TestCheckpoint(t *testing.T) {
	acts := `
		bucket a => ok
		put a k 100*c => 1
		tick 3 => ok
	`
	h := newHand(t, geo())
	o := plays(t, geo(), acts)
	h.d, h.j = o.Devices, o.Journal
	h.save(o.State)
	same(t, "the state", plays(t, geo(), acts+"checkpoint => ok").State, o.State)
	h.same(plays(t, geo(), acts+"checkpoint => ok"))
	h.save(o.State)
	h.same(plays(t, geo(), acts+"checkpoint => ok\ncheckpoint => ok"))
}

// TestArm: P8.15: the fuel, and nothing else.
func TestArm(t *testing.T) {
	for _, n := range []int{0, 1, 7, api.MaxFuel, -1, api.MaxFuel + 1, huge, least} {
		h := newHand(t, geo())
		want := api.OK
		if n < 0 || n > api.MaxFuel {
			want = api.ErrRange
		} else {
			h.d.Fuel = n
		}
		o, e := Run(geo(), []api.Act{{Kind: api.Arm, N: n}})
		if e != api.OK || show(o.Answers[0]) != show(api.Answer{Code: want}) || !o.Up {
			t.Errorf("with %d: %v, %+v", n, e, o.Answers)
		}
		h.same(o)
	}
	plays(t, geo(), "arm 9 => ok\narm -1 => range\narm 2 => ok\ntick 1 => ok\narm 2 => ok\ntick 1 => ok\narm 1 => ok\ntick 1 => down\narm 5 => down")
}

// TestRecover: P8.16: all that was answered is there.
func TestRecover(t *testing.T) {
	acts := `
		bucket a => ok
		mode a 1 => ok
		put a k 100*c => 1
		put a l 70*d => 2
		archive a k => 1
		begin a m => 3
		send 3 2 x => 2
		restore a k 1 4 => 1
		delete a l => 4
		tick 3 => ok
	`
	ahead := plays(t, geo(), acts)
	o := plays(t, geo(), acts+"recover yyy 7 => 2")
	same(t, "the state", o.State, ahead.State)
	h := newHand(t, geo())
	d, e := dev.Crash(geo(), ahead.Devices, nil, 0)
	h.good(e)
	h.d, h.j, _, _, e = ring.Open(geo(), d)
	h.good(e)
	h.same(o)
	plays(t, geo(), acts+`
		recover - 0 => 2
		recover - 0 => 2
		get a l 2 => 2 hot@0 =70*d
		serve => 1
		recover - 0 => 3
		get a k => 1 warm@7 =100*c
		checkpoint => ok
		recover - 0 => ok
		get a k => 1 warm@7 =100*c
		complete 3 => 5
		recover - 0 => 1
		get a m => 5 hot@3 =x
	`)
	// One in which nothing was done has no snapshot.
	same(t, "the state", plays(t, geo(), "recover - 0 => ok").State, api.State{Next: 1})
	same(t, "the state", plays(t, geo(), "checkpoint => ok\nrecover - 0 => ok").State, api.State{Next: 1})
}

// TestRecoverDown: P8.16: what was going on is there whole, or not at all, by what the crash keeps.
func TestRecoverDown(t *testing.T) {
	acts := `
		bucket a => ok
		put a k x => 1
		arm 1 => ok
		put a k y => down
		recover - 0 => 2
		get a k => 1 hot@0 =x
		arm 3 => ok
		put a k y => down
	`
	plays(t, geo(), acts+"recover - 0 => 2\nget a k => 1 hot@0 =x\nput a k z => 2\nget a k => 2 hot@0 =z")
	plays(t, geo(), acts+"recover n 0 => 2\nget a k => 1 hot@0 =x")
	plays(t, geo(), acts+"recover y 0 => 3\nget a k => 2 hot@0 =y\nput a k z => 3\nrecover - 0 => 4")
	plays(t, geo(), `
		bucket a => ok
		put a k 100*c => 1
		arm 1 => ok
		archive a k => down
		recover - 9 => 2
		get a k => 1 hot@0 =100*c
		archive a k => 1
		get a k => cold 1 cold@0
		restore a k 0 1 => 1
		serve => 1
		get a k => 1 warm@1 =100*c
	`)
}

// TestRecoverTail: P8.16: so many bytes of the tape's end as M says; what is appended from then on stands behind them.
func TestRecoverTail(t *testing.T) {
	for _, tail := range []int{0, 1, 9, 105, 106, huge} {
		at := min(tail, 106)
		l := []api.Act{act("bucket a"), act("put a k 100*c"), act("arm 1"), act("archive a k"), {Kind: api.Recover, M: tail}, act("archive a k")}
		o, e := Run(geo(), l)
		if e != api.OK || said(o.Answers[5]) != "1" || versionOf(t, o.State, 1).At != at || len(o.Devices.Volumes[0].Data) != at+106 {
			t.Errorf("a tail of %d: %v, %+v", tail, e, o)
		}
	}
}

// TestRecoverTakes: P8.16: a volume that was given up, and not taken away.
func TestRecoverTakes(t *testing.T) {
	acts := []api.Act{act("bucket a"), act("put a k 100*c"), act("archive a k"), act("erase a k")}
	seen := 0
	for fuel := range 5 {
		l := append(acts, api.Act{Kind: api.Arm, N: fuel}, act("compact"), act("recover yy 0"))
		o, e := Run(geo(), l)
		if e != api.OK || !o.Up || len(o.Devices.Volumes) != 1 {
			t.Fatalf("with the fuel %d: %v, %+v", fuel, e, o)
		}
		v := o.Devices.Volumes[0]
		if given := len(o.State.Gone) == 1; given != v.Gone || given != (len(v.Data) == 0) {
			t.Errorf("with the fuel %d: %+v, and the volume is %+v", fuel, o.State, v)
		}
		if o.Answers[5].Code == api.ErrDown && v.Gone {
			seen++
		}
	}
	// With one thing the frame is kept; with two the journal is safe, and the taking away dies.
	if seen != 2 {
		t.Errorf("taken away by a recovery: %d times", seen)
	}
}

// TestRecoverRefused: P8.16: what is refused leaves all as it was, up or down, the fuel, too.
func TestRecoverRefused(t *testing.T) {
	for _, acts := range []string{
		"bucket a => ok\nput a k x => 1\narm 5 => ok\n",
		"bucket a => ok\narm 1 => ok\nput a k x => down\n",
	} {
		ahead := plays(t, geo(), acts)
		o := plays(t, geo(), acts+"recover yy -1 => range")
		same(t, "all", show(o.Up, o.State, o.Devices, o.Journal), show(ahead.Up, ahead.State, ahead.Devices, ahead.Journal))
	}
	if o, e := Run(geo(), []api.Act{{Kind: api.Recover, M: least}}); e != api.OK || show(o.Answers[0]) != show(api.Answer{Code: api.ErrRange}) {
		t.Errorf("%v, %+v", e, o.Answers)
	}
}

// opened house, and what its journal has: bytes of a snapshot (nil: none was saved), and of transactions.
func opened(t *testing.T, snapshot []byte, l ...[]byte) house {
	t.Helper()
	h := newHand(t, geo())
	var e api.Errno
	if snapshot != nil {
		h.d, h.j, e = ring.Save(h.g, h.d, h.j, snapshot)
		h.good(e)
	}
	for _, b := range l {
		h.d, h.j, e = ring.Commit(h.g, h.d, h.j, b)
		h.good(e)
	}
	h.d.Fuel = 9
	return house{g: h.g, up: true, s: api.State{Next: 5}, d: h.d, j: h.j}
}

// TestRecoverWrong: P8.16: a journal of which something can't be read: refused; by a transaction it is down, else all is as it was.
func TestRecoverWrong(t *testing.T) {
	good := []byte{0, 0, 1, 0, 0, 0, 3, 0, 0, 0, 0, 0}
	gone := []byte{0, 0, 1, 0, 0, 0, 3, 0, 0, 0, 0, 1, 2}
	pass := []byte{1, api.Pass, 0, 0, 0, 4}
	for _, c := range []struct {
		name     string
		snapshot []byte
		l        [][]byte
		want     api.Errno
		down     bool
	}{
		{"nothing wrong", good, [][]byte{pass, pass}, api.OK, false},
		{"a snapshot that ends too early", good[:5], nil, api.ErrShort, false},
		{"a snapshot with more bytes", append(good[:12:12], 0), nil, api.ErrForm, false},
		{"a snapshot of no state", make([]byte, 12), nil, api.ErrState, false},
		{"a snapshot, ahead of a transaction", good[:5], [][]byte{{1, 99}}, api.ErrShort, false},
		{"a transaction without bytes", good, [][]byte{pass, {}}, api.ErrShort, true},
		{"a transaction of no kind", nil, [][]byte{{1, 99}}, api.ErrKind, true},
		{"a transaction with more bytes", nil, [][]byte{append(pass[:6:6], 0)}, api.ErrForm, true},
		{"a record that is refused", nil, [][]byte{pass, {1, api.Chill, 0, 0, 1}, pass}, api.ErrNone, true},
		{"a record behind a good one", nil, [][]byte{{2, api.Pass, 0, 0, 0, 1, api.Pass, 255, 255, 255, 255}}, api.ErrRange, true},
		{"the first transaction tells", nil, [][]byte{{1, 99}, {}}, api.ErrKind, true},
		{"a volume that was never begun", gone, nil, api.ErrNone, false},
		{"a transaction, ahead of a volume", gone, [][]byte{{1, 99}}, api.ErrKind, true},
	} {
		for _, up := range []bool{true, false} {
			h := opened(t, c.snapshot, c.l...)
			down := house{g: h.g, d: h.d}
			if !up {
				h = down
			}
			want := h
			if c.down {
				want = down
			}
			got := h.answer(act("recover - 0"))
			if c.want == api.OK {
				if got.N != len(c.l) || got.Code != api.OK || h.s.Clock != 11 || !h.up {
					t.Errorf("%s: %+v, %+v", c.name, got, h.s)
				}
				continue
			}
			same(t, c.name, got, api.Answer{Code: c.want})
			same(t, c.name, h, want)
		}
	}
}

// TestRecoverNothing: P8.16: devices without a journal that counts.
func TestRecoverNothing(t *testing.T) {
	d, e := dev.New(geo())
	if e != api.OK {
		t.Fatal(e)
	}
	h := house{g: geo(), d: d}
	got := h.answer(act("recover - 0"))
	same(t, "the answer", got, api.Answer{Code: api.ErrForm})
	same(t, "the house", h, house{g: geo(), d: d})
}

// TestRecoverTakesAll: P8.16: volumes that are gone already are let be, the others are taken, one by one.
func TestRecoverTakesAll(t *testing.T) {
	snapshot := []byte{0, 0, 1, 0, 0, 0, 0, 0, 0, 0, 0, 2, 0, 2}
	h := opened(t, snapshot)
	h.d.Volumes = []api.Volume{{Gone: true}, {Data: []byte("a"), Synced: 1}, {Data: []byte("bc"), Synced: 1}}
	got := h.answer(act("recover - 1"))
	same(t, "the answer", got, api.Answer{})
	same(t, "the volumes", h.d.Volumes, []api.Volume{{Gone: true}, {Data: []byte("a"), Synced: 1}, {Gone: true}})
	same(t, "the state", h.s, api.State{Next: 1, Gone: []int{0, 2}})
	if h.d.Fuel != -1 || !h.up {
		t.Errorf("%d, %v", h.d.Fuel, h.up)
	}
}
