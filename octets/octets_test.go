package octets

import (
	"bytes"
	"slices"
	"testing"

	"plinth/api"
)

func TestPutGet(t *testing.T) {
	for n := 1; n <= 8; n++ {
		for _, v := range []uint64{0, 1, 1<<(8*n-1) + 3, 1<<(8*n) - 1} {
			b, e := Put([]byte{7, 8}, v, n)
			if e != api.OK || len(b) != 2+n || b[0] != 7 || b[1] != 8 || b[2] != byte(v) {
				t.Fatal(n, v, b, e)
			}
			got, at, e := Get(append(b, 9), 2, n)
			if got != v || at != 2+n || e != api.OK {
				t.Fatal(n, v, got, at, e)
			}
		}
		if n < 8 {
			if b, e := Put(nil, 1<<(8*n), n); b != nil || e != api.ErrRange {
				t.Error(n, b, e)
			}
		}
	}
	for _, n := range []int{0, 9, -1, 1 << 40} {
		if _, e := Put(nil, 0, n); e != api.ErrArg {
			t.Error(n, e)
		}
		if _, _, e := Get(nil, -1, n); e != api.ErrArg {
			t.Error(n, e)
		}
		if _, _, e := GetAll(nil, -1, n, 0); e != api.ErrArg {
			t.Error(n, e)
		}
	}
	for _, at := range []int{-1, 4, 1 << 62} {
		if v, p, e := Get([]byte{1, 2, 3}, at, 1); v != 0 || p != 0 || e != api.ErrRange {
			t.Error(at, v, p, e)
		}
	}
	if _, _, e := Get([]byte{1, 2, 3}, 3, 1); e != api.ErrShort {
		t.Error(e)
	}
	if _, _, e := Get([]byte{1, 2, 3}, 2, 2); e != api.ErrShort {
		t.Error(e)
	}
}

func TestTexts(t *testing.T) {
	for _, s := range [][]byte{nil, {0}, []byte("volume"), make([]byte, api.MaxBody)} {
		b, e := PutText([]byte{1}, s)
		if e != api.OK || len(b) != 5+len(s) {
			t.Fatal(len(s), e)
		}
		got, at, e := GetText(b, 1)
		if !bytes.Equal(got, s) || at != len(b) || e != api.OK {
			t.Fatal(len(s), at, e)
		}
		if len(s) > 0 {
			if _, _, e := GetText(b[:len(b)-1], 1); e != api.ErrShort {
				t.Error(e)
			}
		}
	}
	if _, e := PutText(nil, make([]byte, api.MaxBody+1)); e != api.ErrLong {
		t.Error(e)
	}
	if _, _, e := GetText([]byte{1, 0, 0, 1}, 0); e != api.ErrLong {
		t.Error(e)
	}
	if _, _, e := GetText([]byte{0, 0, 0, 1}, 0); e != api.ErrShort {
		t.Error(e)
	}
	if _, _, e := GetText(nil, 1); e != api.ErrRange {
		t.Error(e)
	}
	if _, _, e := GetText([]byte{1, 2, 3}, 0); e != api.ErrShort {
		t.Error(e)
	}
}

func TestAll(t *testing.T) {
	b, e := PutAll([]byte{5}, 2, 1, 65535, 3)
	if e != api.OK || !bytes.Equal(b, []byte{5, 1, 0, 255, 255, 3, 0}) {
		t.Fatal(b, e)
	}
	l, at, e := GetAll(b, 1, 2, 3)
	if e != api.OK || at != 7 || !slices.Equal(l, []uint64{1, 65535, 3}) {
		t.Error(l, at, e)
	}
	if b, e := PutAll([]byte{5}, 1, 1, 256, 2); b != nil || e != api.ErrRange {
		t.Error(b, e)
	}
	if _, e := PutAll(nil, 9, 1); e != api.ErrArg {
		t.Error(e)
	}
	if l, at, e := GetAll(b, 1, 2, 4); l != nil || at != 0 || e != api.ErrShort {
		t.Error(l, at, e)
	}
	if _, _, e := GetAll(b, 0, 1, api.MaxBody+1); e != api.ErrArg {
		t.Error(e)
	}
	if _, _, e := GetAll(b, 0, 1, -1); e != api.ErrArg {
		t.Error(e)
	}
	if _, _, e := GetAll(b, 0, 8, api.MaxBody); e != api.ErrShort {
		t.Error(e)
	}
	if l, at, e := GetAll(b, 7, 2, 0); len(l) != 0 || at != 7 || e != api.OK {
		t.Error(l, at, e)
	}
	if _, _, e := GetAll(b, 8, 2, 0); e != api.ErrRange {
		t.Error(e)
	}
}

func TestNewMemory(t *testing.T) {
	b := make([]byte, 2, 64)
	p, _ := Put(b, 1, 1)
	q, _ := Put(b, 2, 1)
	if p[2] != 1 || q[2] != 2 {
		t.Error("two answers share memory")
	}
	s, _ := PutText(nil, []byte("ab"))
	got, _, _ := GetText(s, 0)
	got[0] = 'z'
	if s[4] != 'a' {
		t.Error("a text shares memory with its bytes")
	}
	r, _ := PutAll(b, 1)
	r[0] = 9
	if b[0] != 0 {
		t.Error("no numbers: the bytes are shared")
	}
}
