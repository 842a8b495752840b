package ring

import (
	"bytes"
	"testing"

	"icehouse/api"
	"icehouse/dev"
)

// super: the bytes of a superblock, with others behind them.
func super(gen, epoch, area, length, start, first int) []byte {
	b := []byte{
		byte(gen >> 24), byte(gen >> 16), byte(gen >> 8), byte(gen),
		byte(epoch >> 24), byte(epoch >> 16), byte(epoch >> 8), byte(epoch),
		byte(area),
		byte(length >> 24), byte(length >> 16), byte(length >> 8), byte(length),
		byte(start >> 8), byte(start),
		byte(first >> 24), byte(first >> 16), byte(first >> 8), byte(first),
	}
	return append(b, bytes.Repeat([]byte{0xcc}, api.Sector-len(b))...)
}

// fr: the sector of a frame, with other bytes behind its own.
func fr(epoch, number, index, last, length int, b string) []byte {
	out := []byte{
		byte(epoch >> 24), byte(epoch >> 16), byte(epoch >> 8), byte(epoch),
		byte(number >> 24), byte(number >> 16), byte(number >> 8), byte(number),
		byte(index), byte(last), byte(length >> 8), byte(length),
	}
	out = append(out, b...)
	return append(out, bytes.Repeat([]byte{0xdd}, api.Sector-len(out))...)
}

// TestOpenNew: P2.8 of a journal that was only formatted, thing by thing.
func TestOpenNew(t *testing.T) {
	d, _ := formatted(t)
	j := api.Journal{Gen: 2, Epoch: 2, First: 1, Next: 1}
	does(t, "Open", open, d, j, step{0, superblock(j)}, flush())
	a := open(small(), d)
	if len(a.snapshot) != 0 || len(a.l) != 0 {
		t.Errorf("a new journal has something in it: %v", a)
	}
}

// TestOpen: P2.8: snapshot, transactions and journal, and what is done, thing by thing.
func TestOpen(t *testing.T) {
	g := small()
	d, j := formatted(t)
	d, j, _ = Commit(g, d, j, text(9))
	d, j, _ = Commit(g, d, j, text(2*api.Frame))
	d, j, _ = Save(g, d, j, text(100))
	want := []([]byte){nil, text(60), text(1)}
	for i, b := range want {
		var e api.Errno
		if d, j, e = Commit(g, d, j, b); e != api.OK {
			t.Fatal(i, e)
		}
	}
	k := api.Journal{Gen: 3, Epoch: 2, Area: 1, Length: 100, Start: 3, First: 3, Place: 3, Next: 6, Used: 4}
	does(t, "Open", open, d, k, step{1, superblock(k)}, flush())
	a := open(g, d)
	if !bytes.Equal(a.snapshot, text(100)) || len(a.l) != 3 {
		t.Fatalf("snapshot %q, transactions %q", a.snapshot, a.l)
	}
	for i, b := range want {
		if !bytes.Equal(a.l[i], b) {
			t.Errorf("transaction %d: %q, want %q", i, a.l[i], b)
		}
	}
	// What is opened goes on: its superblock counts, and a transaction of the new epoch is found behind the old ones.
	d, j, _ = Save(g, a.d, a.j, text(192))
	d, j, _ = Commit(g, d, j, text(7))
	a = open(g, d)
	if a.e != api.OK || a.j.Gen != 5 || a.j.Epoch != 3 || !bytes.Equal(a.snapshot, text(192)) || len(a.l) != 1 {
		t.Errorf("opened once more: %v", a)
	}
	d, _, _ = Commit(g, a.d, a.j, text(5))
	if a = open(g, d); a.e != api.OK || len(a.l) != 2 || len(a.l[1]) != 5 || a.j.Epoch != 4 {
		t.Errorf("transactions of two epochs: %v", a)
	}
}

// TestOpenSuperblocks: P2.3 and P2.8: which of the superblocks counts.
func TestOpenSuperblocks(t *testing.T) {
	const most = api.MaxNumber
	none := sector()
	for _, c := range []struct {
		name string
		l    [2][]byte
		want api.Errno
		gen  int // of the one that is taken
	}{
		{"none", [2][]byte{none, none}, api.ErrForm, 0},
		{"the least one", [2][]byte{none, super(1, 1, 0, 0, 0, 1)}, api.OK, 1},
		{"the greatest one", [2][]byte{super(most-2, most-1, 1, 192, 3, most), none}, api.OK, most - 2},
		{"the greater one is 0", [2][]byte{super(8, 1, 0, 0, 0, 1), super(7, 2, 1, 1, 1, 2)}, api.OK, 8},
		{"the greater one is 1", [2][]byte{super(8, 1, 0, 0, 0, 1), super(9, 2, 1, 1, 1, 2)}, api.OK, 9},
		{"the greater one does not count", [2][]byte{super(8, 1, 0, 0, 0, 1), super(9, 2, 2, 1, 1, 2)}, api.OK, 8},
		{"even, at 1", [2][]byte{none, super(2, 1, 0, 0, 0, 1)}, api.ErrForm, 0},
		{"odd, at 0", [2][]byte{super(3, 1, 0, 0, 0, 1), none}, api.ErrForm, 0},
		{"at the wrong one, greater", [2][]byte{super(9, 1, 0, 0, 0, 1), super(1, 1, 0, 0, 0, 1)}, api.OK, 1},
		{"Gen 0", [2][]byte{super(0, 1, 0, 0, 0, 1), none}, api.ErrForm, 0},
		{"Gen too great", [2][]byte{super(most+2, 1, 0, 0, 0, 1), none}, api.ErrForm, 0},
		{"Gen of all bits", [2][]byte{none, super(1<<32-1, 1, 0, 0, 0, 1)}, api.ErrForm, 0},
		{"Epoch 0", [2][]byte{super(2, 0, 0, 0, 0, 1), none}, api.ErrForm, 0},
		{"Epoch too great", [2][]byte{super(2, most+1, 0, 0, 0, 1), none}, api.ErrForm, 0},
		{"Area 2", [2][]byte{super(2, 1, 2, 0, 0, 1), none}, api.ErrForm, 0},
		{"Area 255", [2][]byte{super(2, 1, 255, 0, 0, 1), none}, api.ErrForm, 0},
		{"Length too great", [2][]byte{super(2, 1, 0, 193, 0, 1), none}, api.ErrForm, 0},
		{"Length of all bits", [2][]byte{super(2, 1, 0, 1<<32-1, 0, 1), none}, api.ErrForm, 0},
		{"Start behind the ring", [2][]byte{super(2, 1, 0, 0, 4, 1), none}, api.ErrForm, 0},
		{"Start of a high byte", [2][]byte{super(2, 1, 0, 0, 256, 1), none}, api.ErrForm, 0},
		{"First 0", [2][]byte{super(2, 1, 0, 0, 0, 0), none}, api.ErrForm, 0},
		{"First too great", [2][]byte{super(2, 1, 0, 0, 0, most+1), none}, api.ErrForm, 0},
		{"Gen by its highest byte", [2][]byte{super(2+1<<24, 1, 0, 0, 0, 1), none}, api.ErrForm, 0},
		{"Epoch by its highest byte", [2][]byte{super(2, 1+1<<24, 0, 0, 0, 1), none}, api.ErrForm, 0},
		{"Length by its highest byte", [2][]byte{super(2, 1, 0, 1<<24, 0, 1), none}, api.ErrForm, 0},
		{"First by its highest byte", [2][]byte{super(2, 1, 0, 0, 0, 1+1<<24), none}, api.ErrForm, 0},
		{"the last Gen", [2][]byte{super(most, 1, 0, 0, 0, 1), none}, api.ErrFull, 0},
		{"the last Epoch", [2][]byte{super(2, most, 0, 0, 0, 1), none}, api.ErrFull, 0},
		{"the last Epoch, of the lesser one", [2][]byte{super(2, most, 0, 0, 0, 1), super(3, 1, 0, 0, 0, 1)}, api.OK, 3},
	} {
		d := blank(t)
		d.Safe[0], d.Safe[1] = c.l[0], c.l[1]
		a := open(small(), d)
		if c.want != api.OK {
			refuses(t, c.name, a, c.want)
			d.Fuel = 0
			refuses(t, c.name+", dead", open(small(), d), c.want)
			continue
		}
		if a.e != api.OK || a.j.Gen != c.gen+1 {
			t.Errorf("%s: %v, %+v", c.name, a.e, a.j)
			continue
		}
		b := c.l[c.gen%2]
		if a.j.Epoch != int(b[5])<<16+int(b[6])<<8+int(b[7])+1 || a.j.Area != int(b[8]) || a.j.Start != int(b[14]) || a.j.Place != a.j.Start || a.j.Next != a.j.First {
			t.Errorf("%s: %+v", c.name, a.j)
		}
	}
}

// TestOpenSnapshot: P2.8: the first bytes of the area that is meant, over the edges of its sectors.
func TestOpenSnapshot(t *testing.T) {
	for area := range 2 {
		for _, n := range []int{0, 1, 63, 64, 65, 128, 192} {
			d := blank(t)
			var all []byte
			for i := range 3 {
				at := []int{area0At, area1At}[area] + i
				d.Safe[at] = text(200)[i : i+api.Sector]
				all = append(all, d.Safe[at]...)
			}
			d.Safe[0], d.Safe[1] = sector(), super(1, 1, area, n, 0, 1)
			a := open(small(), d)
			if a.e != api.OK || !bytes.Equal(a.snapshot, all[:n]) || a.j.Length != n || a.j.Area != area {
				t.Errorf("area %d, %d bytes: %v", area, n, a)
			}
		}
	}
}

// whole frames of a text are made of this.
const full = "0123456789012345678901234567890123456789012345678901"

// TestOpenTransactions: P2.5 and P2.8: what stands whole in the ring, from the place 2 on, from the number 7 on.
func TestOpenTransactions(t *testing.T) {
	const most = 1<<32 - 1
	one := func(epoch, number int, b string) []byte { return fr(epoch, number, 0, 1, len(b), b) }
	for _, c := range []struct {
		name string
		l    [][]byte
		want []string
		used int
	}{
		{"nothing", nil, nil, 0},
		{"one", [][]byte{one(3, 7, "a")}, []string{"a"}, 1},
		{"one without bytes", [][]byte{one(3, 7, "")}, []string{""}, 1},
		{"one full frame", [][]byte{one(3, 7, full)}, []string{full}, 1},
		{"two", [][]byte{one(3, 7, "a"), one(3, 8, "b")}, []string{"a", "b"}, 2},
		{"two frames", [][]byte{fr(3, 7, 0, 0, 52, full), fr(3, 7, 1, 1, 1, "x")}, []string{full + "x"}, 2},
		{"two frames, the last one empty", [][]byte{fr(3, 7, 0, 0, 52, full), fr(3, 7, 1, 1, 0, "")}, []string{full}, 2},
		{"two frames, and one", [][]byte{fr(3, 7, 0, 0, 52, full), fr(3, 7, 1, 1, 52, full), one(3, 8, "b")}, []string{full + full, "b"}, 3},
		{"all of the ring", [][]byte{one(3, 7, "a"), one(3, 8, "b"), one(3, 9, "c"), one(3, 10, "d")}, []string{"a", "b", "c", "d"}, 4},
		{"all of the ring, in one", [][]byte{fr(3, 7, 0, 0, 52, full), fr(3, 7, 1, 0, 52, full), fr(3, 7, 2, 0, 52, full), fr(3, 7, 3, 1, 2, "xy")}, []string{full + full + full + "xy"}, 4},
		{"no end in the ring", [][]byte{fr(3, 7, 0, 0, 52, full), fr(3, 7, 1, 0, 52, full), fr(3, 7, 2, 0, 52, full), fr(3, 7, 3, 0, 52, full)}, nil, 0},
		{"the second one has no end in the ring", [][]byte{one(3, 7, "a"), fr(3, 8, 0, 0, 52, full), fr(3, 8, 1, 0, 52, full), fr(3, 8, 2, 0, 52, full)}, []string{"a"}, 1},
		{"a lesser number", [][]byte{one(3, 6, "a"), one(3, 7, "b")}, nil, 0},
		{"a greater number", [][]byte{one(3, 8, "a")}, nil, 0},
		{"a number of a high byte", [][]byte{one(3, 7+256, "a")}, nil, 0},
		{"a number of the highest byte", [][]byte{one(3, 7+1<<24, "a")}, nil, 0},
		{"one number twice", [][]byte{one(3, 7, "a"), one(3, 7, "b")}, []string{"a"}, 1},
		{"a number is left out", [][]byte{one(3, 7, "a"), one(3, 9, "b")}, []string{"a"}, 1},
		{"another number in the midst", [][]byte{fr(3, 7, 0, 0, 52, full), fr(3, 8, 1, 1, 1, "x")}, nil, 0},
		{"it begins at the index 1", [][]byte{fr(3, 7, 1, 1, 1, "a")}, nil, 0},
		{"an index twice", [][]byte{fr(3, 7, 0, 0, 52, full), fr(3, 7, 0, 1, 1, "x")}, nil, 0},
		{"an index is left out", [][]byte{fr(3, 7, 0, 0, 52, full), fr(3, 7, 2, 1, 1, "x")}, nil, 0},
		{"the last one is 2", [][]byte{fr(3, 7, 0, 2, 1, "a")}, nil, 0},
		{"the last one is 2, and more behind it", [][]byte{fr(3, 7, 0, 2, 52, full), fr(3, 7, 1, 1, 1, "x")}, nil, 0},
		{"the last one is 255", [][]byte{fr(3, 7, 0, 0, 52, full), fr(3, 7, 1, 255, 1, "a")}, nil, 0},
		{"a frame in the midst is not full", [][]byte{fr(3, 7, 0, 0, 51, full), fr(3, 7, 1, 1, 1, "x")}, nil, 0},
		{"a frame in the midst is empty", [][]byte{fr(3, 7, 0, 0, 0, full), fr(3, 7, 1, 1, 1, "x")}, nil, 0},
		{"a frame in the midst is too long", [][]byte{fr(3, 7, 0, 0, 53, full), fr(3, 7, 1, 1, 1, "x")}, nil, 0},
		{"the last frame is too long", [][]byte{fr(3, 7, 0, 1, 53, full)}, nil, 0},
		{"the last frame is far too long", [][]byte{fr(3, 7, 0, 1, 65535, full)}, nil, 0},
		{"the length has a high byte", [][]byte{fr(3, 7, 0, 1, 256+1, full)}, nil, 0},
		{"two epochs in one", [][]byte{fr(3, 7, 0, 0, 52, full), fr(4, 7, 1, 1, 1, "x")}, nil, 0},
		{"two epochs in one, falling", [][]byte{fr(3, 7, 0, 0, 52, full), fr(2, 7, 1, 1, 1, "x")}, nil, 0},
		{"the epoch goes back in the last frame", [][]byte{fr(3, 7, 0, 0, 52, full), fr(3, 7, 1, 0, 52, full), fr(2, 7, 2, 1, 1, "x")}, nil, 0},
		{"a lesser epoch", [][]byte{one(3, 7, "a"), one(2, 8, "b")}, []string{"a"}, 1},
		{"a greater epoch", [][]byte{one(3, 7, "a"), one(4, 8, "b"), one(4, 9, "c")}, []string{"a", "b", "c"}, 3},
		{"a greater epoch, then the first one's", [][]byte{one(3, 7, "a"), one(5, 8, "b"), one(4, 9, "c")}, []string{"a", "b"}, 2},
		{"an epoch by its highest byte", [][]byte{one(3, 7, "a"), one(1<<24, 8, "b"), one(4, 9, "c")}, []string{"a", "b"}, 2},
		{"any epoch", [][]byte{one(0, 7, "a"), one(most, 8, "b")}, []string{"a", "b"}, 2},
	} {
		d := blank(t)
		d.Safe[0], d.Safe[1] = sector(), super(1, 3, 0, 0, 2, 7)
		for i, b := range c.l {
			d.Safe[ringAt+(2+i)%4] = b
		}
		a := open(small(), d)
		j := api.Journal{Gen: 2, Epoch: 4, Start: 2, First: 7, Place: (2 + c.used) % 4, Next: 7 + len(c.want), Used: c.used}
		if a.e != api.OK || a.j != j || len(a.l) != len(c.want) {
			t.Errorf("%s: %v, %+v, %d transactions", c.name, a.e, a.j, len(a.l))
			continue
		}
		for i, s := range c.want {
			if string(a.l[i]) != s {
				t.Errorf("%s: transaction %d: %q, want %q", c.name, i, a.l[i], s)
			}
		}
	}
}

// TestOpenLastNumber: P2.8: no transaction has the number MaxNumber.
func TestOpenLastNumber(t *testing.T) {
	for first := api.MaxNumber - 1; first <= api.MaxNumber; first++ {
		d := blank(t)
		d.Safe[0], d.Safe[1] = sector(), super(1, 3, 0, 0, 0, first)
		for i := range 4 {
			d.Safe[ringAt+i] = fr(3, first+i, 0, 1, 1, "a")
		}
		a := open(small(), d)
		if want := api.MaxNumber - first; a.e != api.OK || len(a.l) != want || a.j.Next != api.MaxNumber || a.j.Used != want {
			t.Errorf("from %d on: %v, %d transactions, %+v", first, a.e, len(a.l), a.j)
		}
	}
}

// TestOpenCache: P2.8: what was put and is not flushed is read, too (P1.6).
func TestOpenCache(t *testing.T) {
	d := blank(t)
	d.Safe[1] = super(1, 3, 0, 0, 0, 7)
	d.Cache = []api.Write{
		{At: 0, Data: super(2, 4, 1, 3, 1, 9)},
		{At: ringAt + 1, Data: fr(4, 9, 0, 1, 1, "a")},
		{At: area1At, Data: sector('x', 'y', 'z')},
		{At: ringAt + 1, Data: fr(4, 9, 0, 1, 1, "b")},
	}
	a := open(small(), d)
	if a.e != api.OK || a.j.Gen != 3 || string(a.snapshot) != "xyz" || len(a.l) != 1 || string(a.l[0]) != "b" {
		t.Errorf("%v", a)
	}
	if len(a.d.Cache) != 0 || a.d.Safe[area1At][0] != 'x' {
		t.Errorf("not all is flushed: %v", a.d)
	}
}

// TestCrashes: what was committed is found behind every crash; a transaction is found whole, or not at all.
func TestCrashes(t *testing.T) {
	g := small()
	d, j := formatted(t)
	d, j, _ = Save(g, d, j, text(10))
	d, j, _ = Commit(g, d, j, text(3))
	for name, f := range map[string]call{"Commit": commit(j, text(120)), "Save": save(j, text(100)), "Open": open} {
		for fuel := range 8 {
			x := twin(d)
			x.Fuel = fuel
			a := f(g, x)
			for bits := range 1 << len(a.d.Cache) {
				keep := make([]bool, len(a.d.Cache))
				for i := range keep {
					keep[i] = bits>>i&1 == 1
				}
				y, _ := dev.Crash(g, a.d, keep, 0)
				b := open(g, y)
				before := len(b.snapshot) == 10 && len(b.l) >= 1 && bytes.Equal(b.l[0], text(3))
				switch {
				case b.e != api.OK:
					t.Errorf("%s, fuel %d, %v: %v", name, fuel, keep, b.e)
				case a.e == api.OK && name == "Commit" && !(before && len(b.l) == 2):
					t.Errorf("Commit, fuel %d: lost", fuel)
				case a.e == api.OK && name == "Save" && !(len(b.snapshot) == 100 && len(b.l) == 0):
					t.Errorf("Save, fuel %d: lost", fuel)
				case len(b.snapshot) == 100 && (!bytes.Equal(b.snapshot, text(100)) || name != "Save"):
					t.Errorf("%s, fuel %d, %v: half a snapshot", name, fuel, keep)
				case len(b.snapshot) != 100 && !before:
					t.Errorf("%s, fuel %d, %v: what was there is lost", name, fuel, keep)
				case before && len(b.l) == 2 && !bytes.Equal(b.l[1], text(120)):
					t.Errorf("%s, fuel %d, %v: half a transaction", name, fuel, keep)
				}
			}
		}
	}
}

// TestLeftOvers: frames of a transaction that was not whole do not mix with those of the next one of its number.
func TestLeftOvers(t *testing.T) {
	g := small()
	d, j := formatted(t)
	d.Fuel = 3
	d, _, _ = Commit(g, d, j, text(150))
	d, _ = dev.Crash(g, d, []bool{false, true, true}, 0)
	a := open(g, d)
	if len(a.l) != 0 {
		t.Fatalf("half a transaction: %v", a)
	}
	x := twin(a.d)
	x.Fuel = 3
	x, _, _ = Commit(g, x, a.j, text(140))
	x, _ = dev.Crash(g, x, []bool{true, false, false}, 0)
	if b := open(g, x); b.e != api.OK || len(b.l) != 0 {
		t.Errorf("frames of two epochs: %v", b)
	}
}
