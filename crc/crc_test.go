package crc

import (
	"bytes"
	"testing"

	"plinth/api"
)

// plain is the sum, bit by bit, as the document has it.
func plain(b []byte) uint32 {
	c := ^uint32(0)
	for _, x := range b {
		c ^= uint32(x)
		for range 8 {
			out := c & 1
			c >>= 1
			if out == 1 {
				c ^= 0x82f63b78
			}
		}
	}
	return ^c
}

func some(n int) []byte {
	b := make([]byte, n)
	for i := range b {
		b[i] = byte(i*i*7 + i>>3)
	}
	return b
}

func TestSum(t *testing.T) {
	if s := Sum([]byte("123456789")); s != 0xe3069283 {
		t.Errorf("%x", s)
	}
	if Sum() != 0 || Sum(nil, nil) != 0 {
		t.Error("the sum of nothing")
	}
	for i := range 256 {
		if b := []byte{byte(i)}; Sum(b) != plain(b) {
			t.Error(i)
		}
	}
	b := some(300)
	for cut := range 301 {
		if Sum(b[:cut], b[cut:]) != plain(b) || More(Sum(b[:cut]), b[cut:]) != plain(b) {
			t.Error(cut)
		}
	}
}

func TestJoin(t *testing.T) {
	for _, n := range []int{0, 1, 2, 3, 63, 64, 1000, 1 << 16} {
		a, b := some(77), some(n)
		s, e := Join(Sum(a), Sum(b), n)
		if s != Sum(a, b) || e != api.OK {
			t.Error(n, s, e)
		}
	}
	big := make([]byte, api.MaxBody)
	if s, e := Join(Sum([]byte("x")), Sum(big), len(big)); s != Sum([]byte("x"), big) || e != api.OK {
		t.Error(s, e)
	}
	for _, n := range []int{-1, api.MaxBody + 1} {
		if s, e := Join(1, 2, n); s != 0 || e != api.ErrArg {
			t.Error(n, s, e)
		}
	}
}

func TestSeal(t *testing.T) {
	for n := range 20 {
		b := some(n)
		s := Seal(b)
		if len(s) != n+4 || s[n] != byte(Sum(b)) {
			t.Fatal(n, s)
		}
		o, e := Open(s)
		if !bytes.Equal(o, b) || e != api.OK {
			t.Fatal(n, o, e)
		}
		for i := range s {
			for _, x := range []byte{1, 0x80, 0xff} {
				s[i] ^= x
				if o, e := Open(s); o != nil || e != api.ErrSum {
					t.Error(n, i, o, e)
				}
				s[i] ^= x
			}
		}
		for i := 0; i+4 <= len(s); i++ {
			c := bytes.Clone(s)
			c[i], c[i+1], c[i+3] = c[i]^9, c[i+1]^200, c[i+3]^1
			if _, e := Open(c); e != api.ErrSum {
				t.Error(n, i, e)
			}
		}
	}
	for n := range 4 {
		if _, e := Open(make([]byte, n)); e != api.ErrShort {
			t.Error(n, e)
		}
	}
	if o, e := Open(make([]byte, 4)); len(o) != 0 || e != api.OK {
		t.Error(o, e)
	}
}
