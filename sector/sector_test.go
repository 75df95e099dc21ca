package sector

import (
	"bytes"
	"slices"
	"testing"

	"plinth/api"
)

func disk(t *testing.T, n, size int) *Disk {
	t.Helper()
	d, e := New(n, size)
	if e != api.OK {
		t.Fatal(e)
	}
	return d
}

func want(t *testing.T, d *Disk, i int, s string) {
	t.Helper()
	b, e := d.Read(i, len(s)/d.size)
	if e != api.OK || string(b) != s {
		t.Errorf("sector %d: %q, %v, not %q", i, b, e, s)
	}
}

func put(t *testing.T, d *Disk, i int, s string) {
	t.Helper()
	if e := d.Write(i, []byte(s)); e != api.OK {
		t.Fatal(i, e)
	}
}

func TestNew(t *testing.T) {
	for _, c := range [][2]int{{0, 1}, {1, 0}, {-1, 1}, {65537, 1}, {1, 8193}} {
		if d, e := New(c[0], c[1]); d != nil || e != api.ErrDisk {
			t.Error(c, e)
		}
	}
	d := disk(t, 65536, 8192)
	if n, size := d.Shape(); n != 65536 || size != 8192 {
		t.Error(n, size)
	}
	if b, e := d.Read(65535, 1); e != api.OK || !bytes.Equal(b, make([]byte, 8192)) {
		t.Error(e)
	}
}

func TestReadWrite(t *testing.T) {
	d := disk(t, 4, 2)
	for _, c := range [][2]int{{-1, 1}, {0, -1}, {4, 1}, {5, 0}, {3, 2}, {1, 1 << 62}} {
		if b, e := d.Read(c[0], c[1]); b != nil || e != api.ErrRange {
			t.Error(c, e)
		}
	}
	if b, e := d.Read(4, 0); len(b) != 0 || e != api.OK {
		t.Error(b, e)
	}
	if e := d.Write(9, []byte("abc")); e != api.ErrArg {
		t.Error(e)
	}
	for _, i := range []int{-1, 4, 3} {
		if e := d.Write(i, []byte("abcd")); e != api.ErrRange {
			t.Error(i, e)
		}
	}
	if e := d.Write(5, nil); e != api.ErrRange {
		t.Error(e)
	}
	put(t, d, 4, "")
	b := []byte("abcd")
	d.Write(2, b)
	b[0] = 'x'
	want(t, d, 1, "\x00\x00abcd")
	got, _ := d.Read(2, 1)
	got[0] = 'y'
	want(t, d, 2, "ab")
	put(t, d, 2, "ef")
	want(t, d, 2, "efcd")
	if l := d.Loose(); !slices.Equal(l, []int{2, 3}) {
		t.Error(l)
	}
	if e := d.Barrier(); e != api.OK || d.Loose() != nil {
		t.Error(e)
	}
	d.Crash(api.Crash{Torn: -1})
	want(t, d, 2, "efcd")
}

func TestCrash(t *testing.T) {
	make := func() *Disk {
		d := disk(t, 4, 2)
		put(t, d, 0, "aabbccdd")
		d.Barrier()
		put(t, d, 2, "EF")
		put(t, d, 0, "AB")
		return d
	}
	for _, c := range []struct {
		c    api.Crash
		want string
	}{
		{api.Crash{Torn: -1}, "aabbccdd"},
		{api.Crash{Torn: -1, Keep: []bool{false, true}}, "aabbEFdd"},
		{api.Crash{Torn: -1, Keep: []bool{true, true, true, true}}, "ABbbEFdd"},
		{api.Crash{Torn: 0, Cut: 1}, "Aabbccdd"},
		{api.Crash{Torn: 0, Cut: 1, Keep: []bool{true}}, "Aabbccdd"},
		{api.Crash{Torn: 1, Cut: 1, Keep: []bool{true}}, "ABbbEcdd"},
		{api.Crash{Torn: 1, Cut: -5}, "aabbccdd"},
		{api.Crash{Torn: 1, Cut: 50}, "aabbEFdd"},
		{api.Crash{Torn: 7, Cut: 1, Keep: []bool{true}}, "ABbbccdd"},
	} {
		d := make()
		d.Fuse(0)
		if e := d.Crash(c.c); e != api.OK || d.Loose() != nil {
			t.Error(e)
		}
		want(t, d, 0, c.want)
		put(t, d, 0, "zz") // no fuse is set behind a crash
	}
}

func TestBad(t *testing.T) {
	d := disk(t, 3, 2)
	put(t, d, 0, "aabbcc")
	d.Barrier()
	put(t, d, 1, "BB")
	if e := d.Bad(1); e != api.OK || d.Loose() != nil {
		t.Error(e)
	}
	for _, c := range [][2]int{{1, 1}, {0, 2}, {0, 3}} {
		if b, e := d.Read(c[0], c[1]); b != nil || e != api.ErrMedia {
			t.Error(c, e)
		}
	}
	want(t, d, 0, "aa")
	put(t, d, 1, "xy")
	want(t, d, 1, "xy")
	e := d.Copy()
	d.Crash(api.Crash{Torn: 0, Cut: 2, Keep: []bool{true}})
	if _, e := d.Read(1, 1); e != api.ErrMedia {
		t.Error("torn over a bad one", e)
	}
	put(t, d, 1, "xy")
	d.Crash(api.Crash{Torn: -1})
	if _, e := d.Read(1, 1); e != api.ErrMedia {
		t.Error("not kept over a bad one", e)
	}
	e.Crash(api.Crash{Torn: -1, Keep: []bool{true}})
	want(t, e, 1, "xy")
	put(t, d, 1, "xy")
	d.Barrier()
	d.Crash(api.Crash{})
	want(t, d, 1, "xy")
	d.Bad(0)
	if e := d.Spoil(0, []byte("q")); e != api.OK {
		t.Error(e)
	}
	want(t, d, 0, "qa")
	put(t, d, 2, "zz")
	d.Spoil(2, []byte("r"))
	want(t, d, 2, "rc")
	d.Crash(api.Crash{})
	want(t, d, 2, "rc")
	for _, i := range []int{-1, 3} {
		if d.Bad(i) != api.ErrRange || d.Spoil(i, []byte("abc")) != api.ErrRange {
			t.Error(i)
		}
	}
	if e := d.Spoil(0, []byte("abc")); e != api.ErrArg {
		t.Error(e)
	}
}

func TestFuse(t *testing.T) {
	d := disk(t, 2, 1)
	d.Fuse(3)
	put(t, d, 0, "a")
	if d.Write(3, nil) != api.ErrRange || d.Barrier() != api.OK {
		t.Error("what does not burn")
	}
	c := d.Copy()
	put(t, d, 0, "")
	for range 2 {
		if d.Write(0, []byte("b")) != api.ErrPower || d.Barrier() != api.ErrPower || d.Write(0, nil) != api.ErrPower {
			t.Error("the fuse is burnt")
		}
	}
	want(t, d, 0, "a")
	if d.Write(2, []byte("b")) != api.ErrRange {
		t.Error("places come first")
	}
	put(t, c, 0, "c")
	if c.Barrier() != api.ErrPower {
		t.Error("a copy has its own fuse")
	}
	d.Fuse(-7)
	put(t, d, 1, "b")
	want(t, d, 0, "ab")
	want(t, c, 0, "c\x00")
}

func TestNil(t *testing.T) {
	for _, d := range []*Disk{nil, {}} {
		if _, e := d.Read(0, 0); e != api.ErrNil {
			t.Error(e)
		}
		for _, e := range []api.Errno{d.Write(0, nil), d.Barrier(), d.Crash(api.Crash{}), d.Spoil(0, nil), d.Bad(0), d.Fuse(1)} {
			if e != api.ErrNil {
				t.Error(e)
			}
		}
		if n, size := d.Shape(); n != 0 || size != 0 || d.Loose() != nil || d.Copy() != nil {
			t.Error("no zero values")
		}
	}
}
