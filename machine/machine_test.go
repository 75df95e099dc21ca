package machine

import (
	"bytes"
	"testing"

	"plinth/api"
)

var (
	shape = api.Shape{Blocks: 4, Size: 2}
	three = api.Group{Members: []int{0, 1, 2}}
)

func write(num, client, serial, at int, s string) api.Entry {
	return api.Entry{Kind: api.EOp, Num: num, Client: client, Serial: serial, Op: api.Op{Kind: api.OpWrite, At: at, N: len(s) / 2, Data: []byte(s)}}
}

func conf(num, client, serial, epoch int, members ...int) api.Entry {
	return api.Entry{Kind: api.EConf, Num: num, Client: client, Serial: serial, Group: api.Group{Epoch: epoch, Members: members}}
}

func fresh(t *testing.T) *Machine {
	t.Helper()
	m, e := New(shape, three)
	if e != api.OK {
		t.Fatal(e)
	}
	return m
}

func apply(t *testing.T, m *Machine, e api.Entry, want api.ResultCode) api.Result {
	t.Helper()
	r, errno := m.Apply(e)
	if errno != api.OK || r.Code != want || m.Num() != e.Num {
		t.Fatal(e.Num, r, errno)
	}
	return r
}

func TestNew(t *testing.T) {
	if m, e := New(api.Shape{}, api.Group{}); m != nil || e != api.ErrShape {
		t.Error(e)
	}
	if m, e := New(shape, api.Group{}); m != nil || e != api.ErrEntry {
		t.Error(e)
	}
	m := fresh(t)
	if m.Num() != 0 || !sameGroup(m.Group(), three) || !SameState(m.State(-1), api.State{Shape: shape, Group: three}) {
		t.Error(m.State(-1))
	}
	m.Group().Members[0] = 9
	if m.Group().Members[0] != 0 {
		t.Error("the group is shared")
	}
}

func TestApply(t *testing.T) {
	m := fresh(t)
	apply(t, m, write(1, 5, 1, 1, "abcd"), api.ROK)
	if r := apply(t, m, write(2, 5, 1, 0, "zz"), api.ROK); r.Data != nil {
		t.Error(r)
	}
	if p := m.State(0).Pages; len(p) != 2 || p[0].At != 1 || p[1].Version != 1 {
		t.Error(p)
	}
	if r, e := m.Apply(write(4, 5, 2, 0, "zz")); r.Code != 0 || e != api.ErrOrder || m.Num() != 2 {
		t.Error(r, e)
	}
	if _, e := m.Apply(write(4, 0, 2, 0, "zz")); e != api.ErrEntry {
		t.Error(e)
	}
	apply(t, m, write(3, 5, 4, 3, "xyz."), api.RRange)
	apply(t, m, write(4, 5, 3, 0, "zz"), 0) // a later one was done: nothing is
	if v, r, e := m.Ask(5, 4); v != api.TAgain || r.Code != api.RRange || e != api.OK {
		t.Error(v, r, e)
	}
	if len(m.State(2).Pages) != 0 {
		t.Error("an old request changed a block")
	}
	apply(t, m, conf(5, 6, 1, 1, 3, 4), api.ROK)
	if g := m.Group(); g.Epoch != 1 || len(g.Members) != 2 {
		t.Error(g)
	}
	apply(t, m, conf(6, 6, 2, 1, 5), api.RRange)
	apply(t, m, conf(7, 6, 3, 3, 5), api.RRange)
	apply(t, m, conf(8, 6, 1, 2, 5), 0)
	if g := m.Group(); g.Epoch != 1 || g.Members[0] != 3 {
		t.Error(g)
	}
	for c := 10; len(m.State(0).Rows) < api.MaxClients; c++ {
		apply(t, m, write(m.Num()+1, c, 1, 0, "aa"), api.ROK)
	}
	apply(t, m, write(m.Num()+1, 999, 1, 0, "qq"), 0) // the table is full
	if v, _, _ := m.Ask(999, 1); v != api.TFull {
		t.Error(v)
	}
	if p := m.State(0).Pages[0]; string(p.Data) != "aa" {
		t.Error(p)
	}
}

func TestStates(t *testing.T) {
	m, w := fresh(t), fresh(t)
	for num := 1; num <= 40; num++ {
		e := write(num, 1+num%3, num, num%4, string([]byte{byte(num), 7}))
		if num == 20 {
			e = conf(num, 9, 1, 1, 1, 2)
		}
		apply(t, m, e, api.ROK)
		if num%5 == 0 {
			since := w.Num()
			if e := w.Patch(m.State(since)); e != api.OK || !SameState(w.State(-1), m.State(-1)) {
				t.Fatal(num, e)
			}
			x, e := Load(m.State(-1))
			if e != api.OK || !SameState(x.State(-1), m.State(-1)) || x.Num() != num {
				t.Fatal(num, e)
			}
			apply(t, x, write(num+1, 1, 1000, 0, "!!"), api.ROK)
			if SameState(x.State(-1), m.State(-1)) {
				t.Fatal("a loaded machine shares memory")
			}
		}
	}
	st := m.State(-1)
	low, other := st, st
	low.Num, low.Pages = 39, nil
	other.Shape.Blocks = 5
	for _, bad := range []api.State{low, other, {}} {
		if e := m.Patch(bad); e != api.ErrState || m.Num() != 40 {
			t.Error(bad, e)
		}
	}
}

// badStates are those of which one thing may not be.
func badStates() []api.State {
	st := func(change func(*api.State)) api.State {
		s := api.State{Num: 5, Shape: shape, Pages: []api.Page{{At: 1, Version: 5, Data: []byte("ab")}}, Rows: []api.Row{{Client: 1, Serial: 1, Result: api.Result{Code: api.ROK}}}, Group: api.Group{Epoch: 1, Members: []int{0, 63}}}
		change(&s)
		return s
	}
	return []api.State{
		{}, st(func(s *api.State) { s.Num = -1 }), st(func(s *api.State) { s.Num = api.MaxNum + 1 }), st(func(s *api.State) { s.Num = 4 }),
		st(func(s *api.State) { s.Shape.Size = 3 }), st(func(s *api.State) { s.Shape = api.Shape{} }), st(func(s *api.State) { s.Pages[0].At = 4 }),
		st(func(s *api.State) { s.Pages[0].Version = 0 }), st(func(s *api.State) { s.Rows[0].Client = 0 }),
		st(func(s *api.State) { s.Rows[0].Result.Code = 0 }), st(func(s *api.State) { s.Group.Members = nil }),
		st(func(s *api.State) { s.Group.Epoch = -1 }), st(func(s *api.State) { s.Group.Members = []int{1, 1} }),
	}
}

func TestMay(t *testing.T) {
	for _, st := range badStates() {
		if m, e := Load(st); m != nil || e != api.ErrState {
			t.Error(st, e)
		}
		if b, e := EncodeState(st); b != nil || e != api.ErrState {
			t.Error(st, e)
		}
	}
	nine := []int{0, 1, 2, 3, 4, 5, 6, 7, 63}
	for _, g := range []api.Group{{Members: []int{0}}, {Epoch: api.MaxNum, Members: nine}} {
		if e := Group(g); e != api.OK {
			t.Error(g, e)
		}
	}
	for _, g := range []api.Group{{}, {Epoch: -1, Members: []int{0}}, {Epoch: api.MaxNum + 1, Members: []int{0}}, {Members: append(nine, 64)}, {Members: []int{-1}}, {Members: []int{64}}, {Members: []int{2, 1}}, {Members: []int{1, 1}}, {Members: []int{0, 1, 2, 3, 4, 5, 6, 7, 8, 9}}} {
		if e := Group(g); e != api.ErrEntry {
			t.Error(g, e)
		}
	}
	change := func(e api.Entry, f func(*api.Entry)) api.Entry { f(&e); return e }
	w, c := write(1, 1, 1, 0, "ab"), conf(1, 1, 1, 1, 0)
	for _, e := range []api.Entry{w, c, change(w, func(e *api.Entry) { e.Num, e.View, e.Client, e.Serial = api.MaxNum, api.MaxNum, api.MaxNum, api.MaxNum })} {
		if errno := Entry(e); errno != api.OK {
			t.Error(e, errno)
		}
	}
	for _, e := range []api.Entry{
		{}, change(w, func(e *api.Entry) { e.Num = 0 }), change(w, func(e *api.Entry) { e.View = -1 }), change(w, func(e *api.Entry) { e.Client = 0 }),
		change(w, func(e *api.Entry) { e.Serial = 0 }), change(w, func(e *api.Entry) { e.Num = api.MaxNum + 1 }), change(w, func(e *api.Entry) { e.Kind = 3 }),
		change(w, func(e *api.Entry) { e.Op.Kind = 0 }), change(w, func(e *api.Entry) { e.Group = three }), change(w, func(e *api.Entry) { e.Group.Epoch = 1 }),
		change(c, func(e *api.Entry) { e.Op.Kind = 4 }), change(c, func(e *api.Entry) { e.Op.At = 1 }), change(c, func(e *api.Entry) { e.Group.Members = nil }), change(c, func(e *api.Entry) { e.Op.Old = []byte{1} }),
	} {
		if errno := Entry(e); errno != api.ErrEntry {
			t.Error(e, errno)
		}
		if b, errno := EncodeEntry(e); b != nil || errno != api.ErrEntry {
			t.Error(e, errno)
		}
	}
}

func TestEntryBytes(t *testing.T) {
	b, errno := EncodeEntry(conf(258, 2, 3, 1, 4, 5))
	want := []byte{2, 2, 1, 0, 0, 0, 0, 0, 0, 0, 0, 0, 0, 0, 0, 0, 0, 2, 0, 0, 0, 0, 0, 0, 0, 3, 0, 0, 0, 0, 0, 0, 0, 1, 0, 0, 0, 0, 0, 0, 0, 2, 4, 5}
	if errno != api.OK || !bytes.Equal(b, want) {
		t.Error(b, errno)
	}
	for _, e := range []api.Entry{write(1, 2, 3, 1, "abcd"), conf(258, 2, 3, 1, 4, 5)} {
		b, _ := EncodeEntry(e)
		got, n, errno := DecodeEntry(append(bytes.Clone(b), 8, 8))
		if !SameEntry(got, e) || n != len(b) || errno != api.OK {
			t.Error(got, n, errno)
		}
		for cut := range b {
			if got, n, errno := DecodeEntry(b[:cut]); !SameEntry(got, api.Entry{}) || n != 0 || errno != api.ErrShort {
				t.Error(cut, errno)
			}
		}
	}
	change := func(i int, x byte) api.Errno {
		c := bytes.Clone(want)
		c[i] = x
		_, _, errno := DecodeEntry(c)
		return errno
	}
	if e := change(0, 3); e != api.ErrBytes {
		t.Error(e)
	}
	if e := change(0, 1); e != api.ErrShort { // a request's texts end too early
		t.Error(e)
	}
	for _, i := range []int{8, 16, 24, 32, 40} {
		if e := change(i, 128); e != api.ErrBytes {
			t.Error(i, e)
		}
	}
	if e := change(41, 3); e != api.ErrShort {
		t.Error(e)
	}
	if e := change(42, 5); e != api.ErrBytes {
		t.Error(e)
	}
}

func TestStateBytes(t *testing.T) {
	m := fresh(t)
	apply(t, m, write(1, 5, 1, 1, "abcd"), api.ROK)
	apply(t, m, api.Entry{Kind: api.EOp, Num: 2, Client: 6, Serial: 9, Op: api.Op{Kind: api.OpRead, At: 1, N: 1}}, api.ROK)
	st := m.State(-1)
	b, errno := EncodeState(st)
	if errno != api.OK || len(b) != 20+2*18+1+21+23+9+3 {
		t.Error(len(b), errno)
	}
	got, n, errno := DecodeState(append(bytes.Clone(b), 1))
	if !SameState(got, st) || n != len(b) || errno != api.OK {
		t.Error(got, n, errno)
	}
	for cut := range b {
		if got, n, errno := DecodeState(b[:cut]); !SameState(got, api.State{}) || n != 0 || errno != api.ErrShort {
			t.Error(cut, errno)
		}
	}
	for i, x := range map[int]byte{7: 128, 8: 0, 12: 3, 20: 9, 24: 3, 32: 3, 0: 0} {
		c := bytes.Clone(b)
		c[i] = x
		if _, _, errno := DecodeState(c); errno == api.OK {
			t.Error(i, x)
		}
	}
	c := bytes.Clone(b)
	c[35] = 1 // a text that is too long, ahead of an end that is too early
	if _, _, errno := DecodeState(c[:40]); errno != api.ErrBytes {
		t.Error(errno)
	}
}

func TestLong(t *testing.T) {
	st := api.State{Num: 1, Shape: api.Shape{Blocks: 4096, Size: 4096}, Group: three}
	for i := range 4096 {
		st.Pages = append(st.Pages, api.Page{At: i, Version: 1, Data: make([]byte, 4096)})
	}
	for c := 1; c <= 64; c++ {
		st.Rows = append(st.Rows, api.Row{Client: c, Serial: 1, Result: api.Result{Code: api.ROK, Data: make([]byte, 1<<18)}})
	}
	if _, e := EncodeState(st); e != api.ErrLong {
		t.Error(e)
	}
	st.Rows[3].Result.Data = make([]byte, 1<<18-(20+4096*4112+1+64*(21+1<<18)+12-api.MaxState))
	b, e := EncodeState(st)
	if e != api.OK || len(b) != api.MaxState {
		t.Error(len(b), e)
	}
	if got, n, e := DecodeState(b); n != len(b) || e != api.OK || !SameState(got, st) {
		t.Error(n, e)
	}
}

func TestNil(t *testing.T) {
	for _, m := range []*Machine{nil, {}} {
		if _, e := m.Apply(api.Entry{}); e != api.ErrNil {
			t.Error(e)
		}
		if _, _, e := m.Ask(0, 0); e != api.ErrNil {
			t.Error(e)
		}
		if e := m.Patch(api.State{}); e != api.ErrNil {
			t.Error(e)
		}
		if m.Num() != 0 || !sameGroup(m.Group(), api.Group{}) || !SameState(m.State(0), api.State{}) {
			t.Error("no zero values")
		}
	}
}
