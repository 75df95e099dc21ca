package frame

import (
	"bytes"
	"testing"

	"plinth/api"
	"plinth/crc"
)

func TestWrite(t *testing.T) {
	b, e := Write(api.Frame{Kind: 7, Serial: 258, Body: []byte("xyz")})
	want := []byte{80, 76, 7, 0, 2, 1, 0, 0, 0, 0, 0, 0, 3, 0, 0, 0, 'x', 'y', 'z'}
	if e != api.OK || !bytes.Equal(b, crc.Seal(want)) {
		t.Error(b, e)
	}
	if b, e := Write(api.Frame{Kind: 7, Serial: 1}); len(b) != 20 || e != api.OK {
		t.Error(b, e)
	}
	if b, e := Write(api.Frame{Body: make([]byte, api.MaxBody+1)}); b != nil || e != api.ErrLong {
		t.Error(len(b), e)
	}
	big := api.Frame{Kind: 255, Serial: 1<<64 - 1, Body: make([]byte, api.MaxBody)}
	b, e = Write(big)
	f, at, e2 := Read(b, 0)
	if e != api.OK || e2 != api.OK || at != len(b) || !Same(f, big) {
		t.Error(e, e2, at)
	}
}

func TestRead(t *testing.T) {
	f := api.Frame{Kind: 1, Serial: 9, Body: []byte("hello")}
	b, _ := Write(f)
	for at := range 3 {
		g, behind, e := Read(append(make([]byte, at), append(b, 1, 2)...), at)
		if !Same(f, g) || behind != at+len(b) || e != api.OK {
			t.Error(g, behind, e)
		}
	}
	for _, at := range []int{-1, len(b) + 1, 1 << 62} {
		if g, behind, e := Read(b, at); !Same(g, api.Frame{}) || behind != 0 || e != api.ErrRange {
			t.Error(at, g, behind, e)
		}
	}
	for n := range len(b) {
		if _, _, e := Read(b[:n], 0); e != api.ErrShort {
			t.Error(n, e)
		}
	}
	change := func(i int, x byte) api.Errno {
		c := bytes.Clone(b)
		c[i] = x
		_, _, e := Read(c, 0)
		return e
	}
	if e := change(0, 81); e != api.ErrFrame {
		t.Error(e)
	}
	if e := change(1, 0); e != api.ErrFrame {
		t.Error(e)
	}
	if e := change(3, 1); e != api.ErrFrame {
		t.Error(e)
	}
	if e := change(15, 1); e != api.ErrFrame {
		t.Error(e)
	}
	if e := change(15, 2); e != api.ErrFrame {
		t.Error(e)
	}
	if e := change(14, 1); e != api.ErrShort {
		t.Error(e)
	}
	for _, i := range []int{2, 4, 11, 16, 20, 21, 24} {
		if e := change(i, 200); e != api.ErrSum {
			t.Error(i, e)
		}
	}
	// A body that is one above the limit is no frame, however few bytes stand behind.
	if e := change(12, 1); e != api.ErrSum && e != api.ErrShort {
		t.Error(e)
	}
	long := []byte{80, 76, 0, 0, 0, 0, 0, 0, 0, 0, 0, 0, 1, 0, 0, 1}
	if _, _, e := Read(long, 0); e != api.ErrFrame {
		t.Error(e)
	}
	if _, _, e := Read(make([]byte, 64), 0); e != api.ErrFrame {
		t.Error(e)
	}
	for i := range b {
		for x := range 256 {
			if byte(x) != b[i] && change(i, byte(x)) == api.OK {
				t.Error("spoilt, and read", i, x)
			}
		}
	}
}

func TestScan(t *testing.T) {
	var all []byte
	var ends []int
	var fs []api.Frame
	for i := range 4 {
		f := api.Frame{Kind: uint8(i), Serial: uint64(i) << 40, Body: make([]byte, i*3)}
		b, _ := Write(f)
		all = append(all, b...)
		fs = append(fs, f)
		ends = append(ends, len(all))
	}
	for n := range len(all) + 1 {
		l, end := Scan(all[:n])
		want := 0
		for want < len(ends) && ends[want] <= n {
			want++
		}
		if len(l) != want || want > 0 && end != ends[want-1] || want == 0 && end != 0 {
			t.Fatal(n, len(l), end)
		}
		for i := range l {
			if !Same(l[i], fs[i]) {
				t.Fatal(n, i)
			}
		}
	}
}

func TestPadSame(t *testing.T) {
	for n := 1; n < 9; n++ {
		for k := range 20 {
			b := bytes.Repeat([]byte{3}, k)
			p, e := Pad(b, n)
			if e != api.OK || len(p)%n != 0 || len(p) < k || len(p) >= k+n || !bytes.HasPrefix(p, b) || bytes.Count(p[k:], []byte{0}) != len(p)-k {
				t.Error(n, k, p, e)
			}
		}
	}
	for _, n := range []int{0, -1, api.MaxBody + 1} {
		if p, e := Pad([]byte{1}, n); p != nil || e != api.ErrArg {
			t.Error(n, p, e)
		}
	}
	if p, e := Pad([]byte{1}, api.MaxBody); len(p) != api.MaxBody || e != api.OK {
		t.Error(len(p), e)
	}
	b := []byte{1, 2}
	p, _ := Pad(b, 2)
	p[0] = 9
	if b[0] != 1 {
		t.Error("Pad shares memory")
	}
	f := api.Frame{Kind: 1, Serial: 2, Body: []byte{}}
	for _, g := range []api.Frame{{Kind: 2, Serial: 2}, {Kind: 1, Serial: 3}, {Kind: 1, Serial: 2, Body: []byte{0}}} {
		if Same(f, g) {
			t.Error(g)
		}
	}
	if !Same(f, api.Frame{Kind: 1, Serial: 2}) {
		t.Error("nil and empty")
	}
}
