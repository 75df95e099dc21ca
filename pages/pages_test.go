package pages

import (
	"bytes"
	"testing"

	"plinth/api"
	"plinth/crc"
	"plinth/frame"
	"plinth/machine"
	"plinth/sector"
)

var shape = api.Shape{Blocks: 4, Size: 100}

func disk(t *testing.T, n, size int) *sector.Disk {
	t.Helper()
	d, e := sector.New(n, size)
	if e != api.OK {
		t.Fatal(e)
	}
	return d
}

func state(num int, at ...int) api.State {
	st := api.State{Num: num, Shape: shape, Group: api.Group{Members: []int{0, 1}}, Rows: []api.Row{{Client: 3, Serial: 4, Result: api.Result{Code: api.RDiffer, Data: []byte("held")}}}}
	for _, i := range at {
		st.Pages = append(st.Pages, api.Page{At: i, Version: num, Data: bytes.Repeat([]byte{byte(num), byte(i)}, 50)})
	}
	return st
}

func save(t *testing.T, d *sector.Disk, r api.Region, st api.State, want int) {
	t.Helper()
	if n, e := Save(d, r, st); n != want || e != api.OK {
		t.Fatal(n, e)
	}
}

func load(t *testing.T, d *sector.Disk, r api.Region, want api.State) {
	t.Helper()
	if st, e := Load(d, r, shape); e != api.OK || !machine.SameState(st, want) {
		t.Error(st.Num, e)
	}
}

func TestSaveLoad(t *testing.T) {
	for _, size := range []int{1, 13, 64, 100, 4096} {
		per := (100 + size - 1) / size
		r := api.Region{From: 2, Count: 4*per + (300+size-1)/size}
		d := disk(t, r.Count+3, size)
		if _, e := Load(d, r, shape); e != api.ErrWhole {
			t.Error(e)
		}
		save(t, d, r, state(1), 0)
		load(t, d, r, state(1))
		save(t, d, r, state(2, 0, 3), 2)
		if len(d.Loose()) == 0 || d.Loose()[0] != 2 {
			t.Error("the head is loose", d.Loose())
		}
		d.Barrier()
		d.Crash(api.Crash{Torn: -1})
		load(t, d, r, state(2, 0, 3))
		save(t, d, r, state(2, 0, 3), 0)
		st := state(3, 1)
		st.Pages = append(st.Pages, state(2, 3).Pages...)
		save(t, d, r, st, 1)
		load(t, d, r, st)
		b, _ := d.Read(2+r.Count-4*per+per, per)
		if !bytes.Equal(b[:100], st.Pages[0].Data) || !bytes.Equal(b[100:], make([]byte, per*size-100)) {
			t.Error("block 1 lies elsewhere")
		}
	}
}

func TestHead(t *testing.T) {
	d := disk(t, 30, 64)
	r := api.Region{From: 5, Count: 20}
	st := state(7, 2)
	save(t, d, r, st, 1)
	bare := st
	bare.Pages = nil
	body, _ := machine.EncodeState(bare)
	sum := crc.Sum(st.Pages[0].Data)
	body = append(body, 1, 0, 0, 0, 2, 0, 0, 0, 7, 0, 0, 0, 0, 0, 0, 0, byte(sum), byte(sum>>8), byte(sum>>16), byte(sum>>24))
	want, _ := frame.Write(api.Frame{Kind: 3, Serial: 7, Body: body})
	want, _ = frame.Pad(want, 64)
	if b, _ := d.Read(5, len(want)/64); !bytes.Equal(b, want) {
		t.Error(b)
	}
	put := func(kind uint8, serial uint64, body []byte) api.Errno {
		b, _ := frame.Write(api.Frame{Kind: kind, Serial: serial, Body: body})
		b, _ = frame.Pad(b, 64)
		d.Write(5, b)
		_, e := Load(d, r, shape)
		return e
	}
	if e := put(3, 7, body); e != api.OK {
		t.Error(e)
	}
	change := func(i int, x byte) []byte {
		c := bytes.Clone(body)
		c[len(c)-20+i] = x
		return c
	}
	for i, e := range []api.Errno{put(2, 7, body), put(3, 8, body), put(3, 7, append(body, 0)), put(3, 7, body[:len(body)-1]), put(3, 7, change(4, 4)),
		put(3, 7, change(4, 1)), put(3, 7, change(8, 8)), put(3, 7, change(8, 0)), put(3, 7, change(16, byte(sum)+1)), put(3, 7, change(0, 2)), put(3, 7, change(0, 0))} {
		if e != api.ErrWhole {
			t.Error(i, e)
		}
	}
	twice := append(change(0, 2), body[len(body)-16:]...)
	if e := put(3, 7, twice); e != api.ErrWhole {
		t.Error(e)
	}
	full, _ := machine.EncodeState(st)
	if e := put(3, 7, append(full, 0, 0, 0, 0)); e != api.ErrWhole {
		t.Error(e)
	}
	if e := put(3, 7, body); e != api.OK {
		t.Error(e)
	}
	if _, e := Load(d, r, api.Shape{Blocks: 4, Size: 99}); e != api.ErrWhole {
		t.Error(e)
	}
	for i := 5; i < 9; i++ {
		c := d.Copy()
		c.Bad(i)
		if _, e := Load(c, r, shape); (e == api.ErrWhole) != (i < 5+len(want)/64) {
			t.Error(i, e)
		}
	}
}

func TestRefused(t *testing.T) {
	d := disk(t, 30, 64)
	if _, e := Save(nil, api.Region{}, api.State{}); e != api.ErrNil {
		t.Error(e)
	}
	if _, e := Load(&sector.Disk{}, api.Region{}, api.Shape{}); e != api.ErrNil {
		t.Error(e)
	}
	if _, e := Save(d, api.Region{}, api.State{}); e != api.ErrState {
		t.Error(e)
	}
	if _, e := Load(d, api.Region{}, api.Shape{}); e != api.ErrShape {
		t.Error(e)
	}
	for _, r := range []api.Region{{}, {From: -1, Count: 20}, {From: 0, Count: 8}, {From: 11, Count: 20}, {From: 1 << 62, Count: 1 << 62}, {From: 0, Count: 1<<63 - 1}, {Count: -1 << 63}} {
		if n, e := Save(d, r, state(1)); n != 0 || e != api.ErrArea {
			t.Error(r, e)
		}
		if _, e := Load(d, r, shape); e != api.ErrArea {
			t.Error(r, e)
		}
	}
	if n, e := Save(d, api.Region{Count: 9}, state(1, 1)); n != 0 || e != api.ErrFull {
		t.Error(n, e)
	}
	for n := range 3 {
		c := d.Copy()
		c.Fuse(n)
		if k, e := Save(c, api.Region{Count: 20}, state(1, 1)); k != 0 || e != api.ErrPower {
			t.Error(n, k, e)
		}
	}
	d.Fuse(3)
	save(t, d, api.Region{Count: 20}, state(1, 1), 1)
}

func TestRoom(t *testing.T) {
	for _, size := range []int{1, 64, 512, 8192} {
		n := Room(api.MaxSectors, size, shape)
		d := disk(t, n, size)
		st := state(9, 0, 1, 2, 3)
		st.Rows = nil
		st.Group = api.Group{Epoch: 1, Members: []int{0, 1, 2, 3, 4, 5, 6, 7, 8}}
		for c := 1; c <= 64; c++ {
			st.Rows = append(st.Rows, api.Row{Client: c, Serial: 1, Result: api.Result{Code: api.RSize}})
		}
		save(t, d, api.Region{Count: n}, st, 4)
		if _, e := Save(d, api.Region{Count: n - 1}, st); e != api.ErrFull && e != api.ErrArea {
			t.Error(size, e)
		}
		if Room(n, size, shape) != n || Room(n-1, size, shape) != 0 {
			t.Error(size, n)
		}
	}
	for _, n := range []int{Room(9, 0, shape), Room(9, 8193, shape), Room(0, 64, shape), Room(-1, 64, shape), Room(1000, 64, api.Shape{})} {
		if n != 0 {
			t.Error(n)
		}
	}
}

// TestCrash loses and tears what is loose within a Save over an elder state.
func TestCrash(t *testing.T) {
	r := api.Region{From: 1, Count: 14}
	other := api.Region{From: 15, Count: 14}
	for fuse := range 4 {
		for keep := range 16 {
			for torn := -1; torn < 3; torn++ {
				d := disk(t, 30, 64)
				save(t, d, other, state(1, 0), 1)
				save(t, d, r, state(2, 1), 1)
				d.Barrier()
				d.Fuse(fuse)
				Save(d, r, state(3, 1))
				d.Crash(api.Crash{Keep: []bool{keep&1 > 0, keep&2 > 0, keep&4 > 0, keep&8 > 0}, Torn: torn, Cut: 20})
				st, e := Load(d, r, shape)
				if e != api.ErrWhole && !machine.SameState(st, state(2, 1)) && !machine.SameState(st, state(3, 1)) {
					t.Fatal(fuse, keep, torn, st, e)
				}
				load(t, d, other, state(1, 0))
			}
		}
	}
}
