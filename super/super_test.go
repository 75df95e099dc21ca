package super

import (
	"bytes"
	"testing"

	"plinth/api"
	"plinth/frame"
	"plinth/sector"
)

func some(serial uint64) api.Super {
	return api.Super{Serial: serial, Epoch: 1, View: 2, Normal: 258, Top: 4, Base: api.MaxNum, Area: 1, Start: 65536, Chain: 0xfffefdfc}
}

func disk(t *testing.T, n, size int) *sector.Disk {
	t.Helper()
	d, e := sector.New(n, size)
	if e != api.OK {
		t.Fatal(e)
	}
	return d
}

func bad() []api.Super {
	var out []api.Super
	for _, v := range []int{-1, api.MaxNum + 1} {
		for k := range 5 {
			s := some(1)
			*[]*int{&s.Epoch, &s.View, &s.Normal, &s.Top, &s.Base}[k] = v
			out = append(out, s)
		}
	}
	for _, c := range [][2]int{{2, 0}, {-1, 0}, {0, -1}, {0, 65537}} {
		s := some(1)
		s.Area, s.Start = c[0], c[1]
		out = append(out, s)
	}
	return out
}

func TestBytes(t *testing.T) {
	s := some(513)
	b, e := Encode(s)
	body := []byte{1, 0, 0, 0, 0, 0, 0, 0, 2, 0, 0, 0, 0, 0, 0, 0, 2, 1, 0, 0, 0, 0, 0, 0, 4, 0, 0, 0, 0, 0, 0, 0, 0, 0, 0, 0, 0, 0, 0, 64, 1, 0, 0, 0, 0, 0, 1, 0, 0xfc, 0xfd, 0xfe, 0xff}
	want, _ := frame.Write(api.Frame{Kind: 1, Serial: 513, Body: body})
	if e != api.OK || !bytes.Equal(b, want) || len(b) != 72 || Check(s) != api.OK {
		t.Error(b, e)
	}
	if got, e := Decode(append(b, 9, 9)); got != s || e != api.OK {
		t.Error(got, e)
	}
	for i := range b {
		c := bytes.Clone(b)
		c[i] ^= 1
		if got, e := Decode(c); got != (api.Super{}) || e == api.OK {
			t.Error(i, e)
		}
		if _, e := Decode(b[:i]); e != api.ErrShort {
			t.Error(i, e)
		}
	}
	body[7] = 255
	for _, f := range []api.Frame{{Kind: 1, Body: body}, {Kind: 1, Body: body[:51]}, {Kind: 1, Body: append(body, 0)}, {Kind: 2, Body: make([]byte, 52)}, {Kind: 1}} {
		b, _ := frame.Write(f)
		if got, e := Decode(b); got != (api.Super{}) || e != api.ErrSuper {
			t.Error(f, e)
		}
	}
	for _, s := range bad() {
		if b, e := Encode(s); b != nil || e != api.ErrSuper || Check(s) != api.ErrSuper {
			t.Error(s, e)
		}
	}
}

func TestSaveLoad(t *testing.T) {
	d := disk(t, 2, 80)
	if _, e := Load(d); e != api.ErrNone {
		t.Error(e)
	}
	d.Write(0, bytes.Repeat([]byte{7}, 160))
	for serial := uint64(1); serial < 6; serial++ {
		if e := Save(d, some(serial)); e != api.OK || len(d.Loose()) == 0 {
			t.Fatal(e)
		}
		d.Barrier()
		if s, e := Load(d); s != some(serial) || e != api.OK {
			t.Fatal(serial, s, e)
		}
		b, _ := d.Read(int(serial%2), 1)
		if !bytes.Equal(b[72:], make([]byte, 8)) {
			t.Error("no bytes 0 behind")
		}
	}
	d.Spoil(1, []byte{0})
	if s, e := Load(d); s != some(4) || e != api.OK {
		t.Error(s, e)
	}
	d.Bad(0)
	if s, e := Load(d); s != (api.Super{}) || e != api.ErrNone {
		t.Error(s, e)
	}
	b, _ := Encode(some(8))
	d.Spoil(1, b) // in the slot of another serial
	if _, e := Load(d); e != api.ErrNone {
		t.Error(e)
	}
	if e := Save(d, some(1<<64-1)); e != api.OK {
		t.Error(e)
	}
	if s, _ := Load(d); s.Serial != 1<<64-1 {
		t.Error(s)
	}
	d.Fuse(0)
	if e := Save(d, some(3)); e != api.ErrPower {
		t.Error(e)
	}
}

func TestCrash(t *testing.T) {
	for cut := range 73 {
		d := disk(t, 3, 72)
		Save(d, some(1))
		d.Barrier()
		Save(d, some(2))
		d.Crash(api.Crash{Torn: 0, Cut: cut})
		s, e := Load(d)
		if e != api.OK || s != some(1) && (cut < 72 || s != some(2)) {
			t.Error(cut, s, e)
		}
	}
}

func TestRefused(t *testing.T) {
	for _, d := range []*sector.Disk{nil, {}} {
		if e := Save(d, api.Super{Area: 9}); e != api.ErrNil {
			t.Error(e)
		}
		if s, e := Load(d); s != (api.Super{}) || e != api.ErrNil {
			t.Error(e)
		}
	}
	for _, d := range []*sector.Disk{disk(t, 1, 100), disk(t, 9, 71)} {
		if e := Save(d, some(1)); e != api.ErrDisk {
			t.Error(e)
		}
		if e := Save(d, bad()[0]); e != api.ErrSuper {
			t.Error(e)
		}
		if _, e := Load(d); e != api.ErrDisk {
			t.Error(e)
		}
	}
}
