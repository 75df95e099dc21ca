package block

import (
	"bytes"
	"testing"

	"plinth/api"
)

const big = 1<<31 - 1

func TestShape(t *testing.T) {
	for _, s := range []api.Shape{{Blocks: 1, Size: 1}, {Blocks: 4096, Size: 4096}, {Blocks: 8, Size: 512}} {
		if e := Shape(s); e != api.OK {
			t.Error(s, e)
		}
	}
	for _, s := range []api.Shape{{}, {Blocks: 0, Size: 1}, {Blocks: 1, Size: 0}, {Blocks: 4097, Size: 1}, {Blocks: 1, Size: 4097}, {Blocks: -1, Size: 4}} {
		if e := Shape(s); e != api.ErrShape {
			t.Error(s, e)
		}
		if c, e := Fit(s, api.Op{}); c != 0 || e != api.ErrShape {
			t.Error(s, c, e)
		}
	}
}

func good() []api.Op {
	return []api.Op{
		{Kind: api.OpRead}, {Kind: api.OpRead, At: big, N: big}, {Kind: api.OpTrim, At: 1, N: 2},
		{Kind: api.OpWrite, At: 1, N: 2, Data: []byte("abc")}, {Kind: api.OpWrite, Data: make([]byte, 1<<18)},
		{Kind: api.OpSwap, At: 9, Data: make([]byte, 1<<18), Old: make([]byte, 4096)}, {Kind: api.OpFlush},
	}
}

func bad() []api.Op {
	return []api.Op{
		{}, {Kind: 6}, {Kind: 255}, {Kind: api.OpRead, At: -1}, {Kind: api.OpRead, N: -1}, {Kind: api.OpRead, At: big + 1},
		{Kind: api.OpRead, N: big + 1}, {Kind: api.OpRead, Data: []byte{1}}, {Kind: api.OpRead, Old: []byte{1}},
		{Kind: api.OpTrim, Data: []byte{1}}, {Kind: api.OpTrim, Old: []byte{1}}, {Kind: api.OpWrite, Old: []byte{1}},
		{Kind: api.OpWrite, Data: make([]byte, 1<<18+1)}, {Kind: api.OpSwap, N: 1}, {Kind: api.OpSwap, Old: make([]byte, 4097)},
		{Kind: api.OpFlush, At: 1}, {Kind: api.OpFlush, N: 1}, {Kind: api.OpFlush, Data: []byte{1}}, {Kind: api.OpFlush, Old: []byte{1}},
	}
}

func TestForm(t *testing.T) {
	for _, o := range good() {
		if e := Form(o); e != api.OK {
			t.Error(o.Kind, e)
		}
	}
	for _, o := range bad() {
		if e := Form(o); e != api.ErrOp {
			t.Error(o.Kind, o.At, o.N, e)
		}
		if c, e := Fit(api.Shape{Blocks: 1, Size: 1}, o); c != 0 || e != api.ErrOp {
			t.Error(o.Kind, c, e)
		}
		if b, e := EncodeOp(o); b != nil || e != api.ErrOp {
			t.Error(o.Kind, e)
		}
	}
}

func TestFit(t *testing.T) {
	s := api.Shape{Blocks: 100, Size: 4}
	for _, c := range []struct {
		o    api.Op
		want api.ResultCode
	}{
		{api.Op{Kind: api.OpRead, At: 99, N: 1}, api.ROK},
		{api.Op{Kind: api.OpRead, At: 36, N: 64}, api.ROK},
		{api.Op{Kind: api.OpRead, At: 0, N: 65}, api.RRange},
		{api.Op{Kind: api.OpRead, At: 0, N: 0}, api.RRange},
		{api.Op{Kind: api.OpRead, At: 99, N: 2}, api.RRange},
		{api.Op{Kind: api.OpTrim, At: big, N: big}, api.RRange},
		{api.Op{Kind: api.OpTrim, At: 0, N: 3}, api.ROK},
		{api.Op{Kind: api.OpWrite, At: 98, N: 2, Data: make([]byte, 8)}, api.ROK},
		{api.Op{Kind: api.OpWrite, At: 98, N: 2, Data: make([]byte, 7)}, api.RSize},
		{api.Op{Kind: api.OpWrite, At: 99, N: 2, Data: make([]byte, 7)}, api.RRange},
		{api.Op{Kind: api.OpSwap, At: 99, Data: make([]byte, 4), Old: make([]byte, 4)}, api.ROK},
		{api.Op{Kind: api.OpSwap, At: 99, Data: make([]byte, 4), Old: make([]byte, 3)}, api.RSize},
		{api.Op{Kind: api.OpSwap, At: 99, Data: make([]byte, 5), Old: make([]byte, 4)}, api.RSize},
		{api.Op{Kind: api.OpSwap, At: 100}, api.RRange},
		{api.Op{Kind: api.OpFlush}, api.ROK},
	} {
		if got, e := Fit(s, c.o); got != c.want || e != api.OK {
			t.Error(c.o, got, e)
		}
	}
	for k := range 256 {
		o := api.Op{Kind: api.OpKind(k)}
		if Changes(o) != (o.Kind == api.OpWrite || o.Kind == api.OpTrim || o.Kind == api.OpSwap) {
			t.Error(k)
		}
	}
}

func TestOpBytes(t *testing.T) {
	b, e := EncodeOp(api.Op{Kind: api.OpSwap, At: 258, Data: []byte("ab"), Old: []byte("c")})
	if e != api.OK || !bytes.Equal(b, []byte{5, 2, 1, 0, 0, 0, 0, 0, 0, 2, 0, 0, 0, 'a', 'b', 1, 0, 0, 0, 'c'}) {
		t.Error(b, e)
	}
	for _, o := range good() {
		b, _ := EncodeOp(o)
		got, n, e := DecodeOp(append(bytes.Clone(b), 1, 2, 3))
		if !Same(got, o) || n != len(b) || e != api.OK {
			t.Error(o.Kind, n, e)
		}
		for _, cut := range []int{0, 1, 5, 9, 12, len(b) - 5, len(b) - 1} {
			if got, n, e := DecodeOp(b[:cut]); !Same(got, api.Op{}) || n != 0 || e != api.ErrShort {
				t.Error(o.Kind, cut, n, e)
			}
		}
	}
	tail := []byte{0, 0, 0, 0, 0, 0, 0, 0}
	for _, b := range [][]byte{
		append([]byte{0, 0, 0, 0, 0, 0, 0, 0, 0}, tail...),
		append([]byte{6, 0, 0, 0, 0, 0, 0, 0, 0}, tail...),
		append([]byte{4, 1, 0, 0, 0, 0, 0, 0, 0}, tail...),
		append([]byte{1, 0, 0, 0, 128, 0, 0, 0, 0}, tail...),
		{1, 0, 0, 0, 0, 0, 0, 0, 0, 1, 0, 0, 1},
	} {
		if got, n, e := DecodeOp(b); !Same(got, api.Op{}) || n != 0 || e != api.ErrBytes {
			t.Error(b, n, e)
		}
	}
	// What ends too early is short, whatever its kind.
	if _, _, e := DecodeOp([]byte{9, 0}); e != api.ErrShort {
		t.Error(e)
	}
}

func TestResults(t *testing.T) {
	for _, r := range []api.Result{{Code: api.ROK}, {Code: api.ROK, Data: make([]byte, 1<<18)}, {Code: api.RDiffer, Data: []byte{1, 2}}, {Code: api.RRange}, {Code: api.RSize}} {
		if Result(r) != api.OK {
			t.Error(r.Code)
		}
		b, e := EncodeResult(r)
		if e != api.OK || b[0] != byte(r.Code) || len(b) != 5+len(r.Data) {
			t.Error(r.Code, e)
		}
		got, n, e := DecodeResult(append(bytes.Clone(b), 7))
		if got.Code != r.Code || !bytes.Equal(got.Data, r.Data) || n != len(b) || e != api.OK {
			t.Error(r.Code, n, e)
		}
		if _, _, e := DecodeResult(b[:len(b)-1]); e != api.ErrShort {
			t.Error(e)
		}
	}
	for _, r := range []api.Result{{}, {Code: 5}, {Code: api.RRange, Data: []byte{1}}, {Code: api.RSize, Data: []byte{1}}, {Code: api.ROK, Data: make([]byte, 1<<18+1)}} {
		if e := Result(r); e != api.ErrBytes {
			t.Error(r.Code, e)
		}
		if b, e := EncodeResult(r); b != nil || e != api.ErrBytes {
			t.Error(r.Code, e)
		}
	}
	for _, b := range [][]byte{{0, 0, 0, 0, 0}, {5, 0, 0, 0, 0}, {2, 1, 0, 0, 0, 9}, {1, 0, 0, 0, 9}} {
		if r, n, e := DecodeResult(b); r.Code != 0 || n != 0 || e != api.ErrBytes {
			t.Error(b, n, e)
		}
	}
}

func TestSame(t *testing.T) {
	o := api.Op{Kind: 1, At: 2, N: 3, Data: []byte{4}, Old: []byte{5}}
	for _, p := range []api.Op{{Kind: 2, At: 2, N: 3, Data: []byte{4}, Old: []byte{5}}, {Kind: 1, At: 1, N: 3, Data: []byte{4}, Old: []byte{5}},
		{Kind: 1, At: 2, N: 4, Data: []byte{4}, Old: []byte{5}}, {Kind: 1, At: 2, N: 3, Data: []byte{5}, Old: []byte{5}}, {Kind: 1, At: 2, N: 3, Data: []byte{4}}} {
		if Same(o, p) {
			t.Error(p)
		}
	}
	if !Same(api.Op{Data: []byte{}}, api.Op{}) || !Same(o, o) {
		t.Error("alike ones")
	}
}
