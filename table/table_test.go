package table

import (
	"testing"

	"plinth/api"
)

var ok = api.Result{Code: api.ROK, Data: []byte{1, 2}}

func ask(t *testing.T, b *Table, client, serial int, want api.Verdict) {
	t.Helper()
	v, r, e := b.Ask(client, serial)
	if v != want || e != api.OK || (v == api.TAgain) != (r.Code != 0) || v != api.TAgain && r.Data != nil {
		t.Error(client, serial, v, r, e)
	}
}

func TestAsk(t *testing.T) {
	b := New()
	ask(t, b, 5, 1, api.TNew)
	if e := b.Put(5, 1, ok); e != api.OK {
		t.Fatal(e)
	}
	ask(t, b, 5, 1, api.TAgain)
	ask(t, b, 5, 2, api.TNew)
	if _, r, _ := b.Ask(5, 1); r.Code != api.ROK || string(r.Data) != "\x01\x02" {
		t.Error(r)
	}
	if e := b.Put(5, 7, api.Result{Code: api.RRange}); e != api.OK {
		t.Fatal(e)
	}
	ask(t, b, 5, 2, api.TOld)
	ask(t, b, 5, 1, api.TOld)
	ask(t, b, 5, 7, api.TAgain)
	ask(t, b, 6, 1, api.TNew)
	if n, known := b.Last(5); n != 7 || !known {
		t.Error(n, known)
	}
	if n, known := b.Last(6); n != 0 || known {
		t.Error(n, known)
	}
}

func TestPut(t *testing.T) {
	b := New()
	for _, c := range [][2]int{{0, 1}, {1, 0}, {-1, 1}, {1, -1}, {api.MaxNum + 1, 1}, {1, api.MaxNum + 1}} {
		if v, _, e := b.Ask(c[0], c[1]); v != 0 || e != api.ErrRange {
			t.Error(c, v, e)
		}
		if e := b.Put(c[0], c[1], api.Result{}); e != api.ErrRange {
			t.Error(c, e)
		}
	}
	if e := b.Put(api.MaxNum, api.MaxNum, ok); e != api.OK {
		t.Error(e)
	}
	if e := b.Put(api.MaxNum, api.MaxNum, api.Result{}); e != api.ErrTable {
		t.Error(e)
	}
	if e := b.Put(api.MaxNum, api.MaxNum, ok); e != api.ErrArg {
		t.Error(e)
	}
	if e := b.Put(api.MaxNum, 1, ok); e != api.ErrArg {
		t.Error(e)
	}
	for c := 1; c < api.MaxClients; c++ {
		if e := b.Put(c, c, ok); e != api.OK || b.Len() != c+1 {
			t.Fatal(c, e)
		}
	}
	ask(t, b, 100, 1, api.TFull)
	if e := b.Put(100, 1, ok); e != api.ErrMany {
		t.Error(e)
	}
	if e := b.Put(100, 1, api.Result{Code: 9}); e != api.ErrTable {
		t.Error(e)
	}
	if e := b.Put(3, 4, ok); e != api.OK || b.Len() != api.MaxClients {
		t.Error(e)
	}
}

func TestRows(t *testing.T) {
	b := New()
	for _, c := range []int{9, 3, 40, 1} {
		b.Put(c, c+1, ok)
	}
	l := b.Rows()
	if len(l) != 4 || l[0].Client != 1 || l[1].Client != 3 || l[2].Client != 9 || l[3].Client != 40 || l[3].Serial != 41 {
		t.Error(l)
	}
	c, e := Load(l...)
	if e != api.OK || !Same(c.Rows(), l) || c.Len() != 4 {
		t.Error(e)
	}
	l[0].Result.Data[0] = 77
	_, r, _ := c.Ask(1, 2)
	r.Data[0] = 78
	b.Rows()[0].Result.Data[0] = 79
	for _, x := range []*Table{b, c} {
		if _, r, _ := x.Ask(1, 2); r.Data[0] != 1 {
			t.Error("shared memory", r)
		}
	}
	if c, e := Load(); e != api.OK || c.Len() != 0 || len(c.Rows()) != 0 {
		t.Error(e)
	}
	row := func(c, s int) api.Row { return api.Row{Client: c, Serial: s, Result: ok} }
	many := make([]api.Row, 65)
	for i := range many {
		many[i] = row(i+1, 1)
	}
	if _, e := Load(many[:64]...); e != api.OK {
		t.Error(e)
	}
	for _, l := range [][]api.Row{many, {row(0, 1)}, {row(1, 0)}, {row(-1, 1)}, {row(api.MaxNum+1, 1)}, {row(1, api.MaxNum+1)},
		{row(2, 1), row(2, 2)}, {row(2, 1), row(1, 1)}, {{Client: 1, Serial: 1}}, {{Client: 1, Serial: 1, Result: api.Result{Code: api.RSize, Data: []byte{1}}}}} {
		if c, e := Load(l...); c != nil || e != api.ErrTable {
			t.Error(l, e)
		}
	}
}

func TestSame(t *testing.T) {
	a := []api.Row{{Client: 1, Serial: 2, Result: ok}}
	if !Same(nil, []api.Row{}) || !Same(a, []api.Row{{Client: 1, Serial: 2, Result: api.Result{Code: api.ROK, Data: []byte{1, 2}}}}) {
		t.Error("alike ones")
	}
	for _, b := range [][]api.Row{nil, {{Client: 2, Serial: 2, Result: ok}}, {{Client: 1, Serial: 1, Result: ok}}, {{Client: 1, Serial: 2, Result: api.Result{Code: api.RDiffer, Data: []byte{1, 2}}}}, {{Client: 1, Serial: 2, Result: api.Result{Code: api.ROK}}}} {
		if Same(a, b) {
			t.Error(b)
		}
	}
}

func TestNil(t *testing.T) {
	for _, b := range []*Table{nil, {}} {
		if _, _, e := b.Ask(0, 0); e != api.ErrNil {
			t.Error(e)
		}
		if e := b.Put(0, 0, ok); e != api.ErrNil {
			t.Error(e)
		}
		if n, known := b.Last(1); n != 0 || known || b.Rows() != nil || b.Len() != 0 {
			t.Error("no zero values")
		}
	}
}
