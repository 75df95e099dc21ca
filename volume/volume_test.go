package volume

import (
	"bytes"
	"testing"

	"plinth/api"
	"plinth/crc"
)

func must(t *testing.T, s api.Shape, l ...api.Page) *Volume {
	t.Helper()
	v, e := Load(s, l...)
	if e != api.OK {
		t.Fatal(e)
	}
	return v
}

func do(t *testing.T, v *Volume, num int, o api.Op) api.Result {
	t.Helper()
	r, e := v.Do(o, num)
	if e != api.OK {
		t.Fatal(num, o, e)
	}
	return r
}

func TestExample(t *testing.T) {
	v, e := New(api.Shape{Blocks: 4, Size: 2})
	if e != api.OK || v.Shape() != (api.Shape{Blocks: 4, Size: 2}) || len(v.Bytes()) != 8 || v.Pages(-1) != nil {
		t.Fatal(e)
	}
	swap := api.Op{Kind: api.OpSwap, At: 2, Old: []byte{3, 4}, Data: []byte{9, 9}}
	if r := do(t, v, 1, api.Op{Kind: api.OpWrite, At: 1, N: 2, Data: []byte{1, 2, 3, 4}}); r.Code != api.ROK || r.Data != nil {
		t.Error(r)
	}
	if r := do(t, v, 2, swap); r.Code != api.ROK || r.Data != nil {
		t.Error(r)
	}
	if r := do(t, v, 3, swap); r.Code != api.RDiffer || !bytes.Equal(r.Data, []byte{9, 9}) {
		t.Error(r)
	}
	p := v.Pages(1)
	if len(p) != 1 || p[0].At != 2 || p[0].Version != 2 || !bytes.Equal(p[0].Data, []byte{9, 9}) {
		t.Error(p)
	}
	if r := do(t, v, 3, api.Op{Kind: api.OpRead, At: 0, N: 4}); r.Code != api.ROK || !bytes.Equal(r.Data, []byte{0, 0, 1, 2, 9, 9, 0, 0}) {
		t.Error(r)
	}
	if r := do(t, v, 4, api.Op{Kind: api.OpTrim, At: 1, N: 1}); r.Code != api.ROK || r.Data != nil {
		t.Error(r)
	}
	if b, version, e := v.Block(1); !bytes.Equal(b, []byte{0, 0}) || version != 4 || e != api.OK {
		t.Error(b, version, e)
	}
	if r := do(t, v, 4, api.Op{Kind: api.OpFlush}); r.Code != api.ROK || r.Data != nil {
		t.Error(r)
	}
	if v.Sum() != crc.Sum(v.Bytes()) || !bytes.Equal(v.Bytes(), []byte{0, 0, 0, 0, 9, 9, 0, 0}) {
		t.Error(v.Bytes())
	}
}

func TestRefused(t *testing.T) {
	if v, e := New(api.Shape{Blocks: 0, Size: 2}); v != nil || e != api.ErrShape {
		t.Error(e)
	}
	if v, e := Load(api.Shape{Size: 2}, api.Page{}); v != nil || e != api.ErrShape {
		t.Error(e)
	}
	v := must(t, api.Shape{Blocks: 2, Size: 1})
	do(t, v, 5, api.Op{Kind: api.OpRead, At: 2, N: 1}) // RRange, and yet a number that was had
	for _, num := range []int{0, -1, 4, api.MaxNum + 1} {
		if r, e := v.Do(api.Op{}, num); r.Code != 0 || e != api.ErrRange {
			t.Error(num, r, e)
		}
	}
	if r, e := v.Do(api.Op{}, 9); r.Code != 0 || e != api.ErrOp {
		t.Error(r, e)
	}
	// An error leaves the number as it was.
	if r := do(t, v, 5, api.Op{Kind: api.OpWrite, N: 1}); r.Code != api.RSize {
		t.Error(r)
	}
	if r := do(t, v, api.MaxNum, api.Op{Kind: api.OpSwap, At: 2}); r.Code != api.RRange {
		t.Error(r)
	}
	for _, i := range []int{-1, 2} {
		if b, n, e := v.Block(i); b != nil || n != 0 || e != api.ErrRange {
			t.Error(i, e)
		}
	}
}

func TestPages(t *testing.T) {
	s := api.Shape{Blocks: 3, Size: 1}
	d := []byte{7}
	for _, l := range [][]api.Page{
		{{At: -1, Version: 1, Data: d}}, {{At: 3, Version: 1, Data: d}}, {{At: 0, Version: 0, Data: d}}, {{At: 0, Version: -4, Data: d}},
		{{At: 0, Version: api.MaxNum + 1, Data: d}}, {{At: 0, Version: 1}}, {{At: 0, Version: 1, Data: []byte{1, 2}}},
		{{At: 1, Version: 1, Data: d}, {At: 1, Version: 1, Data: d}}, {{At: 1, Version: 1, Data: d}, {At: 0, Version: 1, Data: d}},
	} {
		if v, e := Load(s, l...); v != nil || e != api.ErrPage {
			t.Error(l, e)
		}
		v := must(t, s)
		if e := v.Patch(l...); e != api.ErrPage || v.Sum() != crc.Sum(make([]byte, 3)) {
			t.Error(l, e)
		}
	}
	v := must(t, s, api.Page{At: 2, Version: 8, Data: d})
	if _, e := v.Do(api.Op{Kind: api.OpFlush}, 7); e != api.ErrRange {
		t.Error(e)
	}
	if e := v.Patch(api.Page{At: 0, Version: 9, Data: d}); e != api.OK {
		t.Error(e)
	}
	if _, e := v.Do(api.Op{Kind: api.OpFlush}, 8); e != api.ErrRange {
		t.Error(e)
	}
	if p := v.Pages(8); len(p) != 1 || p[0].At != 0 {
		t.Error(p)
	}
	if p := v.Pages(-9); len(p) != 2 || p[1].At != 2 || p[1].Version != 8 {
		t.Error(p)
	}
}

func TestPatched(t *testing.T) {
	s := api.Shape{Blocks: 9, Size: 3}
	v, w := must(t, s), must(t, s)
	for num := 1; num < 60; num++ {
		o := api.Op{Kind: api.OpWrite, At: num * 5 % 8, N: 1 + num%2, Data: bytes.Repeat([]byte{byte(num)}, 3+num%2*3)}
		if num%7 == 0 {
			o = api.Op{Kind: api.OpTrim, At: num % 9, N: 1}
		}
		do(t, v, num, o)
		if num%4 == 0 {
			since := num - 4
			if e := w.Patch(v.Pages(since)...); e != api.OK || w.Sum() != v.Sum() {
				t.Fatal(num, e)
			}
			x := must(t, s, v.Pages(0)...)
			if len(x.Pages(0)) != len(v.Pages(0)) || !bytes.Equal(x.Bytes(), v.Bytes()) {
				t.Fatal(num)
			}
		}
	}
}

func TestMemory(t *testing.T) {
	v := must(t, api.Shape{Blocks: 2, Size: 1})
	in := []byte{1, 2}
	do(t, v, 1, api.Op{Kind: api.OpWrite, N: 2, Data: in})
	in[0] = 9
	r := do(t, v, 1, api.Op{Kind: api.OpRead, N: 1})
	r.Data[0] = 9
	r = do(t, v, 1, api.Op{Kind: api.OpSwap, Data: []byte{0}, Old: []byte{0}})
	r.Data[0] = 9
	b, _, _ := v.Block(0)
	b[0] = 9
	v.Bytes()[0] = 9
	v.Pages(0)[0].Data[0] = 9
	if !bytes.Equal(v.Bytes(), []byte{1, 2}) {
		t.Error(v.Bytes())
	}
}

func TestNil(t *testing.T) {
	for _, v := range []*Volume{nil, {}} {
		if _, e := v.Do(api.Op{}, 0); e != api.ErrNil {
			t.Error(e)
		}
		if _, _, e := v.Block(0); e != api.ErrNil {
			t.Error(e)
		}
		if e := v.Patch(); e != api.ErrNil {
			t.Error(e)
		}
		if v.Shape() != (api.Shape{}) || v.Bytes() != nil || v.Pages(0) != nil || v.Sum() != 0 {
			t.Error("no zero values")
		}
	}
}
