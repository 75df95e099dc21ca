package cursor

import (
	"testing"

	"plinth/api"
	"plinth/fault"
)

func read(b []byte) (v uint64, s string, at int, e api.Errno) {
	defer func() { e = fault.Caught(recover(), e) }()
	l := Of(b)
	n := l.Number(2)
	text := l.Text()
	return n, string(text), l.At(), api.OK
}

func TestLeft(t *testing.T) {
	b := []byte{2, 1, 3, 0, 0, 0, 'a', 'b', 'c', 9}
	if v, s, at, e := read(b); v != 258 || s != "abc" || at != 9 || e != api.OK {
		t.Error(v, s, at, e)
	}
	for n := range 9 {
		if v, s, at, e := read(b[:n]); v != 0 || s != "" || at != 0 || e != api.ErrShort {
			t.Error(n, v, s, at, e)
		}
	}
	if _, _, _, e := read([]byte{0, 0, 1, 0, 0, 1}); e != api.ErrBytes {
		t.Error(e)
	}
	l := Of([]byte{255, 255, 255, 255, 255, 255, 255, 255, 4})
	if l.Int(8) != -1 || len(l.Rest()) != 1 {
		t.Error("a number that an int does not hold")
	}
	l.Pass(1)
	if l.At() != 9 {
		t.Error(l.At())
	}
}
