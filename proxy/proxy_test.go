package proxy

import (
	"slices"
	"testing"

	"plinth/api"
	"plinth/wire"
)

var (
	three = api.Group{Epoch: 1, Members: []int{0, 1, 2}}
	write = api.Op{Kind: api.OpWrite, N: 1, Data: []byte("ab")}
)

func idle(t *testing.T) api.Proxy {
	t.Helper()
	p, e := New(7, three)
	if e != api.OK {
		t.Fatal(e)
	}
	return p
}

func busy(t *testing.T) api.Proxy {
	t.Helper()
	p, _, e := Ask(idle(t), write)
	if e != api.OK {
		t.Fatal(e)
	}
	return p
}

func with(p api.Proxy, f func(*api.Proxy)) api.Proxy { f(&p); return p }

func asked(to int, f func(*api.Msg)) api.Msg {
	m := api.Msg{Kind: api.MRequest, From: -7, To: to, Epoch: 1, Serial: 1, Op: write}
	if f != nil {
		f(&m)
	}
	return m
}

func said(t *testing.T, got []api.Msg, want ...api.Msg) {
	t.Helper()
	if !slices.EqualFunc(got, want, wire.Same) {
		t.Errorf("%+v, not %+v", got, want)
	}
	for _, m := range got {
		if wire.Check(m) != api.OK {
			t.Error("no message", m)
		}
	}
}

func TestCheck(t *testing.T) {
	for i, p := range []api.Proxy{idle(t), busy(t), with(busy(t), func(p *api.Proxy) { p.Op, p.Next = api.Op{}, three })} {
		if e := Check(p); e != api.OK {
			t.Error(i, e)
		}
	}
	for i, p := range []api.Proxy{
		{}, with(idle(t), func(p *api.Proxy) { p.ID = 0 }), with(idle(t), func(p *api.Proxy) { p.ID = api.MaxNum + 1 }), with(idle(t), func(p *api.Proxy) { p.Group.Members = nil }),
		with(idle(t), func(p *api.Proxy) { p.View = -1 }), with(idle(t), func(p *api.Proxy) { p.Serial = -1 }), with(idle(t), func(p *api.Proxy) { p.Quiet = api.MaxNum + 1 }),
		with(idle(t), func(p *api.Proxy) { p.Op = write }), with(idle(t), func(p *api.Proxy) { p.Next = three }), with(idle(t), func(p *api.Proxy) { p.Busy = true }),
		with(busy(t), func(p *api.Proxy) { p.Serial = 0 }), with(busy(t), func(p *api.Proxy) { p.Next = three }), with(busy(t), func(p *api.Proxy) { p.Op.Kind = 9 }),
		with(busy(t), func(p *api.Proxy) { p.Op, p.Next = api.Op{}, api.Group{Epoch: 4} }),
	} {
		if e := Check(p); e != api.ErrProxy {
			t.Error(i, e)
		}
		if _, _, e := Ask(p, write); e != api.ErrProxy {
			t.Error(i, e)
		}
		if q, l := Tick(p); !Same(p, q) || l != nil {
			t.Error(i, "ticks")
		}
		if q, l, r, ok := Take(p, api.Msg{Kind: api.MReply, To: -p.ID, Client: p.ID, Serial: p.Serial, Result: api.Result{Code: api.ROK}}); !Same(p, q) || l != nil || r.Code != 0 || ok {
			t.Error(i, "takes")
		}
	}
	for _, id := range []int{0, -1, api.MaxNum + 1} {
		if p, e := New(id, three); e != api.ErrProxy || !Same(p, api.Proxy{}) {
			t.Error(id, e)
		}
	}
	if _, e := New(1, api.Group{}); e != api.ErrProxy {
		t.Error(e)
	}
}

func TestAsk(t *testing.T) {
	p, l, e := Ask(with(idle(t), func(p *api.Proxy) { p.View, p.Quiet = 4, 9 }), write)
	if e != api.OK || !p.Busy || p.Serial != 1 || p.Quiet != 0 || p.View != 4 || Check(p) != api.OK {
		t.Error(p, e)
	}
	said(t, l, asked(1, nil))
	next := api.Group{Epoch: 2, Members: []int{5}}
	p, l, e = Move(idle(t), next)
	if e != api.OK || Check(p) != api.OK {
		t.Error(p, e)
	}
	said(t, l, asked(0, func(m *api.Msg) { m.Op, m.Group = api.Op{}, next }))
	for i, x := range []struct {
		p    api.Proxy
		op   api.Op
		want api.Errno
	}{
		{busy(t), api.Op{}, api.ErrBusy}, {idle(t), api.Op{}, api.ErrProxy}, {idle(t), api.Op{Kind: 9}, api.ErrProxy}, {with(idle(t), func(p *api.Proxy) { p.Serial = api.MaxNum }), write, api.ErrProxy},
	} {
		if p, l, e := Ask(x.p, x.op); e != x.want || l != nil || !Same(p, api.Proxy{}) {
			t.Error(i, e)
		}
	}
	if _, _, e := Move(idle(t), api.Group{}); e != api.ErrProxy {
		t.Error(e)
	}
	if _, _, e := Move(busy(t), api.Group{}); e != api.ErrBusy {
		t.Error(e)
	}
}

func TestReply(t *testing.T) {
	ok := api.Msg{Kind: api.MReply, From: 1, To: -7, Epoch: 1, View: 5, Client: 7, Serial: 1, Result: api.Result{Code: api.RDiffer, Data: []byte("q")}}
	p, l, r, done := Take(busy(t), ok)
	if !done || l != nil || r.Code != api.RDiffer || string(r.Data) != "q" || !Same(p, with(idle(t), func(p *api.Proxy) { p.Serial, p.View = 1, 5 })) {
		t.Error(p, r, done)
	}
	r.Data[0] = 'z'
	if ok.Result.Data[0] != 'q' {
		t.Error("shared")
	}
	elder := ok
	elder.Epoch = 0
	if p, _, _, done := Take(busy(t), elder); !done || p.View != 0 {
		t.Error("an elder epoch's view", p, done)
	}
	if p, _, _, _ := Take(with(busy(t), func(p *api.Proxy) { p.View = 8 }), ok); p.View != 8 {
		t.Error(p)
	}
	if _, _, r, done := Take(p, ok); done || r.Code != 0 {
		t.Error("twice")
	}
	for i, f := range []func(*api.Msg){
		func(m *api.Msg) { m.Serial = 2 }, func(m *api.Msg) { m.Client = 8 }, func(m *api.Msg) { m.Epoch = 2 }, func(m *api.Msg) { m.Result = api.Result{} }, func(m *api.Msg) { m.To = -8 }, func(m *api.Msg) { m.To = 7 },
		func(m *api.Msg) { m.Kind = api.MAnswer }, func(m *api.Msg) { m.View = -1 },
	} {
		m := ok
		f(&m)
		if p, l, r, done := Take(busy(t), m); done || l != nil || r.Code != 0 || !Same(p, busy(t)) {
			t.Error(i, p, done)
		}
	}
}

func TestNewEpoch(t *testing.T) {
	next := api.Group{Epoch: 3, Members: []int{4, 5}}
	m := api.Msg{Kind: api.MNewEpoch, From: 1, To: -7, Epoch: 3, View: 7, Group: next}
	quiet := func(p *api.Proxy) { p.Quiet = 2 }
	p, l, _, done := Take(with(busy(t), quiet), m)
	if done || !Same(p, with(busy(t), func(p *api.Proxy) { p.Group, p.View = next, 7 })) {
		t.Error(p)
	}
	said(t, l, asked(5, func(m *api.Msg) { m.Epoch = 3 }))
	p, l, _, _ = Take(with(idle(t), quiet), m)
	if l != nil || p.Group.Epoch != 3 || p.Quiet != 0 {
		t.Error(p, l)
	}
	for i, f := range []func(*api.Msg){func(m *api.Msg) { m.Epoch = 4 }, func(m *api.Msg) { m.Group, m.Epoch = three, 1 }, func(m *api.Msg) { m.Group = api.Group{} }, func(m *api.Msg) { m.To = -1 }} {
		x := m
		f(&x)
		if p, l, _, _ := Take(busy(t), x); l != nil || !Same(p, busy(t)) {
			t.Error(i, p)
		}
	}
}

func TestTick(t *testing.T) {
	p := busy(t)
	for n := 1; n <= 9; n++ {
		q, l := Tick(p)
		if !Same(q, with(p, func(p *api.Proxy) { p.Quiet++ })) {
			t.Error(n, q)
		}
		if n%4 == 0 {
			said(t, l, asked(0, nil), asked(1, nil), asked(2, nil))
		} else {
			said(t, l)
		}
		p = q
	}
	p.Quiet = api.MaxNum
	if q, l := Tick(p); q.Quiet != api.MaxNum || len(l) != 3 {
		t.Error(q, l)
	}
	if q, l := Tick(idle(t)); l != nil || !Same(q, idle(t)) {
		t.Error(q, l)
	}
}

func TestSame(t *testing.T) {
	p := busy(t)
	for i, f := range []func(*api.Proxy){
		func(p *api.Proxy) { p.ID++ }, func(p *api.Proxy) { p.Group.Epoch++ }, func(p *api.Proxy) { p.View++ }, func(p *api.Proxy) { p.Serial++ }, func(p *api.Proxy) { p.Busy = false },
		func(p *api.Proxy) { p.Op.N++ }, func(p *api.Proxy) { p.Next.Epoch++ }, func(p *api.Proxy) { p.Quiet++ },
	} {
		if Same(p, with(p, f)) {
			t.Error(i)
		}
	}
	if !Same(p, busy(t)) {
		t.Error("alike ones")
	}
}
