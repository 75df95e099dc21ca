package oplog

import (
	"bytes"
	"slices"
	"testing"

	"plinth/api"
	"plinth/crc"
	"plinth/frame"
	"plinth/machine"
	"plinth/sector"
)

func disk(t *testing.T, n, size int) *sector.Disk {
	t.Helper()
	d, e := sector.New(n, size)
	if e != api.OK {
		t.Fatal(e)
	}
	return d
}

func entry(num, view, size int) api.Entry {
	o := api.Op{Kind: api.OpFlush}
	if size > 0 {
		o = api.Op{Kind: api.OpWrite, N: 1, Data: bytes.Repeat([]byte{byte(num)}, size)}
	}
	return api.Entry{Kind: api.EOp, Num: num, View: view, Client: 1, Serial: num, Op: o}
}

func fresh(t *testing.T, d *sector.Disk, r api.Region, m api.Mark) *Log {
	t.Helper()
	l, e := New(d, r, m)
	if e != api.OK {
		t.Fatal(e)
	}
	return l
}

func add(t *testing.T, l *Log, es ...api.Entry) {
	t.Helper()
	if e := l.Append(es...); e != api.OK {
		t.Fatal(e)
	}
}

func same(a, b []api.Entry) bool { return slices.EqualFunc(a, b, machine.SameEntry) }

func TestNew(t *testing.T) {
	d := disk(t, 10, 100)
	if l, e := New(nil, api.Region{}, api.Mark{}); l != nil || e != api.ErrNil {
		t.Error(e)
	}
	for _, r := range []api.Region{{}, {From: -1, Count: 2}, {From: 0, Count: 11}, {From: 10, Count: 1}, {From: 9, Count: 2}, {From: 1 << 62, Count: 1 << 62}, {From: 2, Count: 1<<63 - 1}} {
		if l, e := New(d, r, api.Mark{}); l != nil || e != api.ErrLog {
			t.Error(r, e)
		}
		if _, e := Open(d, r, api.Mark{}, 0, 0); e != api.ErrLog {
			t.Error(r, e)
		}
	}
	r := api.Region{From: 4, Count: 6}
	for _, m := range []api.Mark{{Num: -1}, {Num: api.MaxNum + 1}, {Start: -1}, {Start: 6}} {
		if _, e := New(d, r, m); e != api.ErrLog {
			t.Error(m, e)
		}
	}
	for _, c := range [][2]int{{-1, 0}, {0, -1}, {api.MaxNum + 1, 0}, {0, api.MaxNum + 1}} {
		if l, e := Open(d, r, api.Mark{}, c[0], c[1]); l != nil || e != api.ErrLog {
			t.Error(c, e)
		}
	}
	l := fresh(t, d, r, api.Mark{Num: 7, Start: 5, Chain: 9})
	if l.Base() != 7 || l.Last() != 7 || l.Room() != 6 || len(l.Entries(0)) != 0 {
		t.Error("a new log")
	}
	if m, e := l.Mark(7); m != (api.Mark{Num: 7, Start: 5, Chain: 9}) || e != api.OK {
		t.Error(m, e)
	}
}

func TestAppend(t *testing.T) {
	d := disk(t, 5, 100)
	l := fresh(t, d, api.Region{From: 2, Count: 3}, api.Mark{})
	if e := l.Append(entry(1, 0, 0), entry(3, 0, 0)); e != api.ErrOrder || l.Last() != 1 {
		t.Error(e)
	}
	b, _ := machine.EncodeEntry(entry(1, 0, 0))
	want, _ := frame.Write(api.Frame{Kind: 2, Serial: 1, Body: append(make([]byte, 4), b...)})
	got, _ := d.Read(2, 1)
	if len(want) != 74 || !bytes.Equal(got[:74], want) || !bytes.Equal(got[74:], make([]byte, 26)) {
		t.Error(got)
	}
	if m, e := l.Mark(1); m != (api.Mark{Num: 1, Start: 1, Chain: crc.Sum(want)}) || e != api.OK {
		t.Error(m, e)
	}
	add(t, l, entry(2, 0, 0), entry(3, 0, 0))
	if m, _ := l.Mark(3); m.Start != 0 || l.Room() != 0 {
		t.Error(m)
	}
	if e := l.Blank(); e != api.OK {
		t.Error(e)
	}
	if o, e := Open(d, api.Region{From: 2, Count: 3}, api.Mark{}, 3, 0); e != api.OK || o.Last() != 3 {
		t.Error(e)
	}
	if e := l.Append(entry(4, 0, 0)); e != api.ErrFull || l.Last() != 3 {
		t.Error(e)
	}
	if e := l.Append(api.Entry{}); e != api.ErrEntry {
		t.Error(e)
	}
	if e := l.Head(1); e != api.OK || l.Base() != 1 || l.Room() != 1 {
		t.Error(e)
	}
	add(t, l, entry(4, 0, 0))
	if got, _ := d.Read(2, 1); got[4] != 4 {
		t.Error("the fourth lies elsewhere")
	}
	if es := l.Entries(3); !same(es, []api.Entry{entry(3, 0, 0), entry(4, 0, 0)}) {
		t.Error(es)
	}
	for _, num := range []int{0, 5, -1} {
		if l.Cut(num) != api.ErrRange || l.Head(num) != api.ErrRange {
			t.Error(num)
		}
		if m, e := l.Mark(num); m != (api.Mark{}) || e != api.ErrRange {
			t.Error(num, e)
		}
	}
	if e := l.Cut(2); e != api.OK || l.Last() != 2 || l.Room() != 2 {
		t.Error(e)
	}
	d.Fuse(0)
	if e := l.Append(entry(3, 0, 0)); e != api.ErrPower || l.Last() != 2 || l.Room() != 2 {
		t.Error(e)
	}
	if e := l.Blank(); e != api.ErrPower {
		t.Error(e)
	}
}

func TestRound(t *testing.T) {
	for _, size := range []int{1, 7, 50, 100} {
		d := disk(t, 600, size)
		r := api.Region{From: 3, Count: 590}
		l := fresh(t, d, r, api.Mark{Start: 580})
		for num := 1; num < 40; num++ {
			e := entry(num, 1, num%5*9)
			if l.Append(e) == api.ErrFull {
				l.Head(l.Base() + 1)
				num--
				continue
			}
			m, _ := l.Mark(l.Base())
			o, errno := Open(d, r, m, 0, 1)
			if errno != api.OK || !same(o.Entries(0), l.Entries(0)) || o.Room() != l.Room() || o.Room() < 0 {
				t.Fatal(size, num, errno, o.Last())
			}
		}
	}
}

func TestOpen(t *testing.T) {
	r := api.Region{From: 1, Count: 8}
	write := func() *sector.Disk {
		d := disk(t, 9, 80)
		add(t, fresh(t, d, r, api.Mark{}), entry(1, 3, 0), entry(2, 3, 0), entry(3, 4, 0), entry(4, 5, 50), entry(5, 4, 0))
		d.Barrier()
		return d
	}
	last := func(d *sector.Disk, m api.Mark, top, view int) int {
		l, e := Open(d, r, m, top, view)
		if e != api.OK {
			t.Fatal(e)
		}
		return l.Last()
	}
	d := write()
	for _, c := range [][3]int{{5, 0, 5}, {3, 0, 3}, {0, 3, 2}, {2, 4, 3}, {4, 4, 5}, {0, 0, 0}} {
		if n := last(d, api.Mark{}, c[0], c[1]); n != c[2] {
			t.Error(c, n)
		}
	}
	if n := last(d, api.Mark{Chain: 1}, 5, 0); n != 0 {
		t.Error("not chained", n)
	}
	if n := last(d, api.Mark{Num: 1}, 5, 0); n != 1 {
		t.Error("another number", n)
	}
	for i, want := range []int{0, 1, 2, 3, 3, 4} {
		d := write()
		d.Bad(1 + i)
		if n := last(d, api.Mark{}, 5, 0); n != want {
			t.Error("bad", i, n)
		}
		d = write()
		d.Spoil(1+i, []byte{80, 76, 3})
		if n := last(d, api.Mark{}, 5, 0); n != want {
			t.Error("spoilt", i, n)
		}
	}
	// A frame whose entry is another number's, or has bytes behind it, is no record.
	for k := range 3 {
		b, _ := machine.EncodeEntry(entry(1+k%2, 0, 0))
		if k == 2 {
			b = append(b, 0)
		}
		f, _ := frame.Write(api.Frame{Kind: 2, Serial: 1, Body: append(make([]byte, 4), b...)})
		d := disk(t, 9, 80)
		d.Spoil(1, f)
		if n := last(d, api.Mark{}, 5, 0); (n == 1) != (k == 0) {
			t.Error(k, n)
		}
	}
}

// TestCrash tears and loses what is loose, in all ways: what was fast stays, and nothing else comes.
func TestCrash(t *testing.T) {
	r := api.Region{From: 0, Count: 12}
	for fast := range 5 {
		for keep := range 64 {
			for _, torn := range []int{-1, 0, 2} {
				d := disk(t, 12, 90)
				l := fresh(t, d, r, api.Mark{Start: 9})
				var es []api.Entry
				for num := 1; num <= 4; num++ {
					es = append(es, entry(num, 1, num%2*40))
				}
				add(t, l, es[:fast]...)
				d.Barrier()
				add(t, l, es[fast:]...)
				c := api.Crash{Torn: torn, Cut: 33}
				for k := range 6 {
					c.Keep = append(c.Keep, keep>>k&1 == 1)
				}
				d.Crash(c)
				o, e := Open(d, r, api.Mark{Start: 9}, 0, 1)
				if e != api.OK || o.Last() < fast || !same(o.Entries(0), es[:o.Last()]) {
					t.Fatal(fast, keep, torn, o.Last())
				}
			}
		}
	}
}

func TestCutStaysCut(t *testing.T) {
	d := disk(t, 9, 80)
	r := api.Region{Count: 9}
	l := fresh(t, d, r, api.Mark{})
	add(t, l, entry(1, 1, 0), entry(2, 1, 0), entry(3, 1, 0))
	l.Cut(1)
	if o, _ := Open(d, r, api.Mark{}, 1, 2); o.Last() != 1 {
		t.Error(o.Last())
	}
	add(t, l, entry(2, 2, 0))
	if o, _ := Open(d, r, api.Mark{}, 1, 2); !same(o.Entries(0), l.Entries(0)) {
		t.Error(o.Last())
	}
	l.Cut(1)
	l.Blank()
	if o, _ := Open(d, r, api.Mark{}, 3, 2); o.Last() != 1 {
		t.Error("Blank", o.Last())
	}
}

func TestSectors(t *testing.T) {
	for _, c := range [][3]int{{0, 74, 1}, {0, 73, 2}, {0, 1, 74}, {0, 8192, 1}, {100, 87, 2}} {
		if n, e := Sectors(entry(1, 0, c[0]), c[1]); n != c[2] || e != api.OK {
			t.Error(c, n, e)
		}
	}
	for _, size := range []int{0, -1, 8193} {
		if n, e := Sectors(entry(1, 0, 0), size); n != 0 || e != api.ErrArg {
			t.Error(size, e)
		}
	}
	if _, e := Sectors(api.Entry{}, 0); e != api.ErrEntry {
		t.Error(e)
	}
}

func TestMemory(t *testing.T) {
	d := disk(t, 9, 200)
	l := fresh(t, d, api.Region{Count: 9}, api.Mark{})
	e := entry(1, 0, 3)
	add(t, l, e)
	e.Op.Data[0] = 9
	l.Entries(0)[0].Op.Data[0] = 9
	if l.Entries(0)[0].Op.Data[0] != 1 {
		t.Error("shared")
	}
}

func TestNil(t *testing.T) {
	for _, l := range []*Log{nil, {}} {
		if _, e := l.Mark(0); e != api.ErrNil {
			t.Error(e)
		}
		for _, e := range []api.Errno{l.Append(), l.Blank(), l.Cut(0), l.Head(0)} {
			if e != api.ErrNil {
				t.Error(e)
			}
		}
		if l.Base() != 0 || l.Last() != 0 || l.Room() != 0 || l.Entries(0) != nil {
			t.Error("no zero values")
		}
	}
}
