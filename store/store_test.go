package store

import (
	"slices"
	"testing"

	"plinth/api"
	"plinth/machine"
	"plinth/oplog"
	"plinth/pages"
	"plinth/sector"
	"plinth/super"
)

var (
	shape  = api.Shape{Blocks: 2, Size: 4}
	layout = api.Layout{Area: 6, Ring: 8}
)

const all = 2 + 2*6 + 8

func disk(t *testing.T) *sector.Disk {
	t.Helper()
	d, e := sector.New(all, 120)
	if e != api.OK {
		t.Fatal(e)
	}
	return d
}

func entry(num, view int) api.Entry {
	return api.Entry{Kind: api.EOp, Num: num, View: view, Client: 1, Serial: num, Op: api.Op{Kind: api.OpWrite, At: num % 2, N: 1, Data: []byte{byte(num), byte(view), 0, 1}}}
}

func entries(from, to, view int) []api.Entry {
	var out []api.Entry
	for n := from; n <= to; n++ {
		out = append(out, entry(n, view))
	}
	return out
}

// at is the state behind some entries.
func at(es ...api.Entry) api.State {
	m, _ := machine.New(shape, api.Group{Members: []int{0, 1, 2}})
	for _, x := range es {
		m.Apply(x)
	}
	return m.State(-1)
}

func format(t *testing.T, d *sector.Disk, es ...api.Entry) *Store {
	t.Helper()
	s, e := Format(d, layout, 0, 1, at(), es...)
	if e != api.OK {
		t.Fatal(e)
	}
	return s
}

func same(a, b []api.Entry) bool { return slices.EqualFunc(a, b, machine.SameEntry) }

// opens: does the disk open, behind a crash, as what the store holds?
func opens(t *testing.T, d *sector.Disk, s *Store, st api.State) {
	t.Helper()
	c := d.Copy()
	c.Crash(api.Crash{Torn: -1})
	o, saved, e := Open(c, layout, shape)
	if e != api.OK || saved.Super != s.Super() || o.Super() != s.Super() || o.Last() != s.Last() || o.Room() != s.Room() ||
		!same(saved.Log, s.Entries(0)) || !same(o.Entries(0), saved.Log) || !machine.SameState(saved.State, st) {
		t.Fatal(e, saved.Super, s.Super(), len(saved.Log), len(s.Entries(0)))
	}
}

func TestFormat(t *testing.T) {
	d := disk(t)
	d.Write(0, make([]byte, 120*all))
	d.Spoil(1, []byte("elder bytes"))
	s := format(t, d, entries(1, 2, 1)...)
	want := api.Super{Serial: 1, View: 1, Normal: 1, Top: 2}
	if s.Super() != want || s.Last() != 2 || s.Room() != 6 || !same(s.Entries(2), entries(2, 2, 1)) {
		t.Error(s.Super())
	}
	opens(t, d, s, at())
	for _, l := range []api.Layout{{}, {Area: 6}, {Ring: 8}, {Area: 6, Ring: 9}, {Area: 7, Ring: 8}, {Area: -1, Ring: 1}, {Area: 1 << 62, Ring: 1 << 62}, {Area: 1, Ring: 1<<63 - 1}} {
		if s, e := Format(d, l, -1, 0, api.State{}); s != nil || e != api.ErrLayout {
			t.Error(l, e)
		}
		if _, _, e := Open(d, l, shape); e != api.ErrLayout {
			t.Error(l, e)
		}
	}
	for _, c := range [][2]int{{-1, 0}, {0, -1}, {api.MaxNum + 1, 0}, {0, api.MaxNum + 1}} {
		if s, e := Format(d, layout, c[0], c[1], api.State{}); s != nil || e != api.ErrView {
			t.Error(c, e)
		}
	}
	if _, e := Format(nil, layout, 0, 0, at()); e != api.ErrNil {
		t.Error(e)
	}
	if s, e := Format(d, layout, 0, 0, api.State{}); s != nil || e != api.ErrState {
		t.Error(e)
	}
	if _, e := Format(d, layout, 0, 0, at(), entry(2, 0)); e != api.ErrOrder {
		t.Error(e)
	}
	if _, e := Format(d, layout, 0, 0, at(), entries(1, 9, 0)...); e != api.ErrFull {
		t.Error(e)
	}
	if _, _, e := Open(d, layout, shape); e != api.ErrNone {
		t.Error(e)
	}
}

func TestAppendView(t *testing.T) {
	d := disk(t)
	s := format(t, d)
	if e := s.Append(entry(1, 1), entry(2, 2)); e != api.ErrView || s.Last() != 0 {
		t.Error(e)
	}
	if e := s.Append(entries(1, 3, 1)...); e != api.OK {
		t.Error(e)
	}
	opens(t, d, s, at())
	if e := s.Append(entry(5, 1)); e != api.ErrOrder {
		t.Error(e)
	}
	for _, c := range [][2]int{{-1, 5}, {0, 0}, {api.MaxNum + 1, 5}, {0, api.MaxNum + 1}, {1, api.MaxNum + 1}} {
		if s.View(c[0], c[1]) != api.ErrView || s.Install(c[0], c[1], -9) != api.ErrView || s.Reset(c[0], c[1], api.State{Num: -1}) != api.ErrView {
			t.Error(c)
		}
	}
	if e := s.View(0, 4); e != api.OK || s.Super() != (api.Super{Serial: 2, View: 4, Normal: 1}) {
		t.Error(e, s.Super())
	}
	opens(t, d, s, at())
	if e := s.View(2, 0); e != api.OK || s.Super() != (api.Super{Serial: 3, Epoch: 2, Normal: 1}) {
		t.Error(e, s.Super())
	}
	if e := s.View(1, 9); e != api.ErrView {
		t.Error(e)
	}
}

func TestInstall(t *testing.T) {
	d := disk(t)
	s := format(t, d, entries(1, 4, 1)...)
	for _, num := range []int{-1, 5} {
		if e := s.Install(0, 2, num); e != api.ErrRange {
			t.Error(num, e)
		}
	}
	// The same log: only the view is another.
	if e := s.Install(0, 2, 0, entries(1, 4, 1)...); e != api.OK || s.Super() != (api.Super{Serial: 2, View: 2, Normal: 2, Top: 4}) {
		t.Error(e, s.Super())
	}
	opens(t, d, s, at())
	// Others behind 2: Top goes down ahead of what is cut.
	es := append(entries(1, 2, 1), entries(3, 5, 3)...)
	if e := s.Install(0, 3, 0, es...); e != api.OK || s.Super() != (api.Super{Serial: 4, View: 3, Normal: 3, Top: 5}) || !same(s.Entries(0), es) {
		t.Error(e, s.Super())
	}
	opens(t, d, s, at())
	// Fewer.
	if e := s.Install(1, 4, 1, entries(2, 2, 1)...); e != api.OK || s.Last() != 2 || s.Super().Top != 2 {
		t.Error(e, s.Super())
	}
	opens(t, d, s, at())
	// What was cut does not come back.
	if e := s.View(1, 9); e != api.OK {
		t.Error(e)
	}
	opens(t, d, s, at())
	if e := s.Install(1, 9, 2, entries(3, 9, 9)...); e != api.ErrFull {
		t.Error(e)
	}
}

func TestCheckpoint(t *testing.T) {
	d := disk(t)
	s := format(t, d)
	for round := range 6 {
		from := round*5 + 1
		if e := s.Append(entries(from, from+4, 1)...); e != api.OK {
			t.Fatal(e)
		}
		st := at(entries(1, from+2+round%3, 1)...)
		if e := s.Checkpoint(st); e != api.OK || s.Super().Base != st.Num || s.Super().Top != st.Num || s.Super().Area != (round+1)%2 {
			t.Fatal(e, s.Super())
		}
		opens(t, d, s, st)
		if round%3 < 2 {
			s.Install(0, 1, s.Super().Base) // cut what is left, so that the numbers go on
			s.Append(entries(s.Last()+1, from+4, 1)...)
			s.Checkpoint(at(entries(1, from+4, 1)...))
			s.Checkpoint(at(entries(1, from+4, 1)...))
		}
	}
	for _, num := range []int{29, 31} {
		if e := s.Checkpoint(api.State{Num: num}); e != api.ErrRange {
			t.Error(num, e)
		}
	}
	if e := s.Checkpoint(api.State{Num: 30}); e != api.ErrState {
		t.Error(e)
	}
}

func TestReset(t *testing.T) {
	d := disk(t)
	s := format(t, d, entries(1, 3, 1)...)
	if e := s.Reset(0, 1, api.State{Num: -1}); e != api.ErrRange {
		t.Error(e)
	}
	if e := s.Reset(0, 1, at(), api.Entry{}); e != api.ErrEntry {
		t.Error(e)
	}
	if e := s.Reset(0, 1, at(), entries(1, 6, 1)...); e != api.ErrFull {
		t.Error(e)
	}
	st := at(entries(1, 10, 1)...)
	if e := s.Reset(2, 5, st, entries(11, 15, 5)...); e != api.OK || s.Last() != 15 || s.Room() != 3 {
		t.Error(e)
	}
	m := s.Super()
	if m.Epoch != 2 || m.View != 5 || m.Normal != 5 || m.Top != 15 || m.Base != 10 || m.Area != 1 || m.Start != 3 || m.Serial != 2 {
		t.Error(m)
	}
	opens(t, d, s, st)
	st = at(entries(1, 20, 1)...)
	if e := s.Reset(2, 6, st); e != api.OK || s.Last() != 20 || s.Room() != 8 {
		t.Error(e)
	}
	opens(t, d, s, st)
}

func TestLost(t *testing.T) {
	write := func() (*sector.Disk, *Store) {
		d := disk(t)
		s := format(t, d, entries(1, 2, 1)...)
		s.Append(entries(3, 4, 1)...)
		return d, s
	}
	ring := 2 + 2*6
	d, _ := write()
	if _, _, e := Open(nil, layout, shape); e != api.ErrNil {
		t.Error(e)
	}
	if _, saved, e := Open(d, layout, api.Shape{}); e != api.ErrLost || saved.Super != (api.Super{}) {
		t.Error(e)
	}
	for i, want := range map[int]api.Errno{1: api.ErrNone, 2: api.ErrLost, ring: api.ErrLost, ring + 1: api.ErrLost, ring + 2: api.OK, 0: api.OK, 9: api.OK} {
		d, _ := write()
		d.Bad(i)
		s, saved, e := Open(d, layout, shape)
		if e != want || (s == nil) != (e != api.OK) || e != api.OK && saved.Log != nil {
			t.Error(i, e)
		}
		if i == ring+2 && s.Last() != 2 {
			t.Error(s.Last())
		}
	}
	// A state of another number than Base is not the checkpoint.
	d, s := write()
	pages.Save(d, s.held.area(0), at(entries(1, 1, 1)...))
	if _, _, e := Open(d, layout, shape); e != api.ErrLost {
		t.Error(e)
	}
	d, _ = write()
	super.Save(d, api.Super{Serial: 2, Start: 8})
	if _, _, e := Open(d, layout, shape); e != api.ErrLost {
		t.Error(e)
	}
}

// TestCrash crashes within each call, behind each number of writes: what was is there, or what comes.
func TestCrash(t *testing.T) {
	old := entries(1, 4, 1)
	st := at(entries(1, 9, 1)...)
	calls := []struct {
		call func(*Store) api.Errno
		want []api.Entry // what may be there of them behind a crash, behind those that are alike
		base int
	}{
		{func(s *Store) api.Errno { return s.Append(entries(5, 6, 1)...) }, entries(1, 6, 1), 0},
		{func(s *Store) api.Errno { return s.View(1, 2) }, old, 0},
		{func(s *Store) api.Errno { return s.Install(0, 2, 0, append(entries(1, 2, 1), entries(3, 5, 2)...)...) }, append(entries(1, 2, 1), entries(3, 5, 2)...), 0},
		{func(s *Store) api.Errno { return s.Checkpoint(at(entries(1, 2, 1)...)) }, entries(3, 4, 1), 2},
		{func(s *Store) api.Errno { return s.Reset(1, 3, st, entries(10, 12, 3)...) }, entries(10, 12, 3), 9},
	}
	for k, c := range calls {
		for fuse := 0; ; fuse++ {
			var done api.Errno
			for keep := range 32 {
				d := disk(t)
				s := format(t, d, old[:3]...)
				s.Append(old[3:]...)
				d.Fuse(fuse)
				done = c.call(s)
				crash := api.Crash{Torn: keep%3 - 1, Cut: 30}
				for b := range 5 {
					crash.Keep = append(crash.Keep, keep>>b&1 == 1)
				}
				d.Crash(crash)
				_, saved, e := Open(d, layout, shape)
				if e != api.OK {
					t.Fatal(k, fuse, keep, e)
				}
				n := 0
				for n < len(saved.Log) && n < len(c.want) && machine.SameEntry(saved.Log[n], c.want[n]) {
					n++
				}
				got, elder := saved.Super.Base == c.base && n == len(saved.Log), saved.Super.Base == 0 && same(saved.Log, old)
				if !got && !elder && !(k == 2 && same(saved.Log, old[:len(saved.Log)])) || k == 2 && len(saved.Log) < 2 || k < 2 && len(saved.Log) < 4 {
					t.Fatal(k, fuse, keep, saved.Super, len(saved.Log))
				}
				if done == api.OK && !got {
					t.Fatal("done, and lost", k, fuse, keep)
				}
			}
			if done == api.OK {
				break
			}
		}
	}
}

func TestNil(t *testing.T) {
	for _, s := range []*Store{nil, {}} {
		for _, e := range []api.Errno{s.Append(), s.View(0, 0), s.Install(0, 0, 0), s.Checkpoint(api.State{}), s.Reset(0, 0, api.State{})} {
			if e != api.ErrNil {
				t.Error(e)
			}
		}
		if s.Super() != (api.Super{}) || s.Last() != 0 || s.Room() != 0 || s.Entries(0) != nil {
			t.Error("no zero values")
		}
	}
	if n, _ := oplog.Sectors(entry(1, 1), 120); n != 1 {
		t.Error("the tests want records of one sector", n)
	}
}
