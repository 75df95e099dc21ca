package wire

import (
	"bytes"
	"testing"

	"plinth/api"
	"plinth/frame"
)

var (
	group = api.Group{Epoch: 1, Members: []int{0, 2, 63}}
	state = api.State{Num: 4, Shape: api.Shape{Blocks: 2, Size: 2}, Pages: []api.Page{{At: 1, Version: 3, Data: []byte("ab")}},
		Rows: []api.Row{{Client: 9, Serial: 2, Result: api.Result{Code: api.ROK, Data: []byte("x")}}}, Group: group}
)

func entry(num int) api.Entry {
	return api.Entry{Kind: api.EOp, Num: num, View: 2, Client: 9, Serial: num, Op: api.Op{Kind: api.OpWrite, N: 1, Data: []byte("cd")}}
}

func some() []api.Msg {
	conf := entry(6)
	conf.Kind, conf.Op, conf.Group = api.EConf, api.Op{}, group
	full := api.Msg{Kind: api.MNewEpoch, From: -api.MaxNum, To: 63, Epoch: 1, View: 2, Num: 3, Commit: 4, Normal: 5, Nonce: 1<<64 - 1, Client: api.MaxNum, Serial: 8,
		Op: entry(1).Op, Result: api.Result{Code: api.RDiffer, Data: []byte("q")}, Group: group, State: state, Log: []api.Entry{entry(5), conf}}
	return []api.Msg{
		{Kind: api.MCommit, To: 1}, {Kind: api.MRequest, From: -1, To: 0, Serial: 1, Op: entry(1).Op}, {Kind: api.MReply, From: 3, To: -7, Result: api.Result{Code: api.RSize}},
		{Kind: api.MStartEpoch, Group: group}, {Kind: api.MNewState, State: state}, {Kind: api.MPrepare, Log: []api.Entry{entry(9)}}, full,
	}
}

// changed are messages each of which has one field that is another one than full's.
func changed(full api.Msg) []api.Msg {
	var out []api.Msg
	for _, f := range []func(*api.Msg){
		func(m *api.Msg) { m.Kind-- }, func(m *api.Msg) { m.From++ }, func(m *api.Msg) { m.To-- }, func(m *api.Msg) { m.Epoch++ }, func(m *api.Msg) { m.View++ },
		func(m *api.Msg) { m.Num++ }, func(m *api.Msg) { m.Commit++ }, func(m *api.Msg) { m.Normal++ }, func(m *api.Msg) { m.Nonce-- }, func(m *api.Msg) { m.Client-- },
		func(m *api.Msg) { m.Serial++ }, func(m *api.Msg) { m.Op.At++ }, func(m *api.Msg) { m.Result.Data = nil }, func(m *api.Msg) { m.Result.Code = api.ROK }, func(m *api.Msg) { m.Group.Epoch++ },
		func(m *api.Msg) { m.Group.Members = m.Group.Members[:2] }, func(m *api.Msg) { m.State.Num++ }, func(m *api.Msg) { m.Log = m.Log[:1] },
	} {
		m := full
		f(&m)
		out = append(out, m)
	}
	return out
}

func TestBytes(t *testing.T) {
	b, e := Encode(api.Msg{Kind: api.MCommit, From: 0, To: 1})
	want := make([]byte, 86)
	want[0], want[9] = 5, 1
	w, _ := frame.Write(api.Frame{Kind: 4, Body: want})
	if e != api.OK || len(b) != 106 || !bytes.Equal(b, w) {
		t.Error(b, e)
	}
	b, _ = Encode(api.Msg{Kind: api.MRequest, From: -2, Group: group})
	if !bytes.Equal(b[17:25], []byte{254, 255, 255, 255, 255, 255, 255, 255}) || b[16+81] != 4 || len(b) != 106+12 {
		t.Error(b)
	}
	for i, m := range some() {
		b, e := Encode(m)
		if e != api.OK || Check(m) != api.OK {
			t.Fatal(i, e)
		}
		got, e := Decode(b)
		if e != api.OK || !Same(got, m) {
			t.Error(i, e, got)
		}
		for k := range b {
			c := bytes.Clone(b)
			c[k] ^= 0x11
			if got, e := Decode(c); e == api.OK || !Same(got, api.Msg{}) {
				t.Error(i, k, e)
			}
			if _, e := Decode(b[:k]); e != api.ErrShort {
				t.Error(i, k, e)
			}
		}
		if _, e := Decode(append(b, 0)); e != api.ErrMsg {
			t.Error(i, e)
		}
	}
}

// TestOnlySo: what is decoded of any body is encoded as just these bytes.
func TestOnlySo(t *testing.T) {
	for i, m := range some() {
		b, _ := Encode(m)
		f, _, _ := frame.Read(b, 0)
		for k := range f.Body {
			for _, x := range []byte{0, 1, 2, 15, 16, 64, 128, 255} {
				g := f
				g.Body = bytes.Clone(f.Body)
				g.Body[k] = x
				c, _ := frame.Write(g)
				got, e := Decode(c)
				if e != api.OK && e != api.ErrMsg {
					t.Fatal(i, k, x, e)
				}
				if e == api.OK {
					if again, e := Encode(got); e != api.OK || !bytes.Equal(again, c) {
						t.Fatal(i, k, x, e)
					}
				}
			}
			g := f
			g.Body = f.Body[:k]
			c, _ := frame.Write(g)
			if _, e := Decode(c); e != api.ErrMsg {
				t.Fatal(i, k, e)
			}
		}
		for _, g := range []api.Frame{{Kind: 3, Body: f.Body}, {Kind: 4, Serial: 1, Body: f.Body}, {Kind: 4, Body: append(bytes.Clone(f.Body), 0)}} {
			c, _ := frame.Write(g)
			if _, e := Decode(c); e != api.ErrMsg {
				t.Error(i, e)
			}
		}
	}
}

func TestCheck(t *testing.T) {
	ok := some()[0]
	for i, f := range []func(*api.Msg){
		func(m *api.Msg) { m.Kind = 0 }, func(m *api.Msg) { m.Kind = 15 }, func(m *api.Msg) { m.From = 64 }, func(m *api.Msg) { m.To = 64 },
		func(m *api.Msg) { m.From = -api.MaxNum - 1 }, func(m *api.Msg) { m.To = -1 << 63 }, func(m *api.Msg) { m.Epoch = -1 }, func(m *api.Msg) { m.View = -1 },
		func(m *api.Msg) { m.Num = -1 }, func(m *api.Msg) { m.Commit = -1 }, func(m *api.Msg) { m.Normal = api.MaxNum + 1 }, func(m *api.Msg) { m.Client = -1 },
		func(m *api.Msg) { m.Serial = api.MaxNum + 1 }, func(m *api.Msg) { m.Op.N = 1 }, func(m *api.Msg) { m.Result.Data = []byte{1} }, func(m *api.Msg) { m.Group.Epoch = 1 },
		func(m *api.Msg) { m.Group.Members = []int{1, 1} }, func(m *api.Msg) { m.State.Num = 1 }, func(m *api.Msg) { m.State.Group = group }, func(m *api.Msg) { m.Log = []api.Entry{{}} },
		func(m *api.Msg) { m.Log = []api.Entry{entry(1), entry(3)} },
	} {
		m := ok
		f(&m)
		if b, e := Encode(m); b != nil || e != api.ErrMsg || Check(m) != api.ErrMsg {
			t.Error(i, e)
		}
	}
	big := ok
	for n := range 65 {
		x := entry(n + 1)
		x.Op.Data = make([]byte, 1<<18)
		big.Log = append(big.Log, x)
	}
	if b, e := Encode(big); b != nil || e != api.ErrLong {
		t.Error(e)
	}
	one := entry(1)
	b, _ := Encode(api.Msg{Kind: 1, Log: []api.Entry{one}})
	big.Log = big.Log[:63]
	c, _ := Encode(big)
	rest := api.MaxBody - (len(c) - 20) - (len(b) - 106 - 2)
	last := entry(64)
	last.Op.Data = make([]byte, rest)
	big.Log = append(big.Log, last)
	if c, e := Encode(big); len(c) != api.MaxBody+20 || e != api.OK {
		t.Error(len(c), e)
	}
	last.Op.Data = make([]byte, rest+1)
	big.Log[63] = last
	if _, e := Encode(big); e != api.ErrLong {
		t.Error(e)
	}
}

func TestSame(t *testing.T) {
	l := some()
	full := l[len(l)-1]
	for i, m := range changed(full) {
		if Same(full, m) || Same(m, full) {
			t.Error(i)
		}
	}
	if !Same(full, full) || !Same(api.Msg{Log: []api.Entry{}}, api.Msg{Op: api.Op{Data: []byte{}}}) {
		t.Error("alike ones")
	}
}
