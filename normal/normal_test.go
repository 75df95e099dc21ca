package normal

import (
	"slices"
	"testing"

	"plinth/api"
	"plinth/ledger"
	"plinth/wire"
)

var (
	three = api.Group{Epoch: 2, Members: []int{0, 1, 2}}
	base  = api.State{Shape: api.Shape{Blocks: 2, Size: 1}, Group: three}
)

func entry(num, view int) api.Entry {
	return api.Entry{Kind: api.EOp, Num: num, View: view, Client: 1, Serial: num, Op: api.Op{Kind: api.OpWrite, N: 1, Data: []byte{byte(num)}}}
}

func entries(from, to int) []api.Entry {
	var out []api.Entry
	for n := from; n <= to; n++ {
		out = append(out, entry(n, 0))
	}
	return out
}

// core is a member's in view 0, with a log up to last.
func core(me, commit, last int) api.Core {
	return api.Core{Me: me, Group: three, Status: api.SNormal, L: api.Ledger{State: base, Log: entries(1, last)}, Commit: commit}
}

func with(c api.Core, f func(*api.Core)) api.Core { f(&c); return c }

func msg(kind api.MsgKind, from, to int, f func(*api.Msg)) api.Msg {
	m := api.Msg{Kind: kind, From: from, To: to, Epoch: 2}
	if f != nil {
		f(&m)
	}
	return m
}

// is holds what a step made against what it should.
func is(t *testing.T, name string, c api.Core, said []api.Msg, want api.Core, l ...api.Msg) {
	t.Helper()
	if !Same(c, want) {
		t.Errorf("%s: core %+v, not %+v", name, c, want)
	}
	if !slices.EqualFunc(said, l, wire.Same) {
		t.Errorf("%s: said %+v, not %+v", name, said, l)
	}
	if Check(want) == api.OK && Check(c) != api.OK {
		t.Errorf("%s: a core that may not be", name)
	}
}

func bad() []api.Core {
	tail := api.Tail{Node: 1, State: base}
	answer := api.Msg{Kind: api.MAnswer, From: 1}
	return []api.Core{
		{}, with(core(0, 0, 1), func(c *api.Core) { c.Me = -1 }), with(core(0, 0, 1), func(c *api.Core) { c.Me = 64 }),
		with(core(0, 0, 1), func(c *api.Core) { c.Group.Members = nil }), with(core(0, 0, 1), func(c *api.Core) { c.View = -1 }),
		with(core(0, 0, 1), func(c *api.Core) { c.Normal = 1 }), with(core(0, 0, 1), func(c *api.Core) { c.Normal = -1 }),
		with(core(0, 0, 1), func(c *api.Core) { c.View = api.MaxNum + 1 }), with(core(0, 0, 1), func(c *api.Core) { c.Status = 0 }),
		with(core(0, 0, 1), func(c *api.Core) { c.Status = 6 }), with(core(0, 0, 1), func(c *api.Core) { c.L.Log = entries(2, 3) }),
		core(0, -1, 1), core(0, 2, 1), with(core(0, 1, 1), func(c *api.Core) { c.L.State.Num = 2; c.L.Log = nil }),
		with(core(0, 0, 1), func(c *api.Core) { c.Acks = []api.Ack{{Node: 1}, {Node: 1}} }),
		with(core(0, 0, 1), func(c *api.Core) { c.Acks = []api.Ack{{Node: 1, Num: -1}} }),
		with(core(0, 0, 1), func(c *api.Core) { c.Wants = []int{2, 1} }), with(core(0, 0, 1), func(c *api.Core) { c.Wants = []int{2, 2} }),
		with(core(0, 0, 1), func(c *api.Core) { c.Tails = []api.Tail{{}} }), with(core(0, 0, 1), func(c *api.Core) { c.Tails = []api.Tail{tail, tail} }),
		with(core(0, 0, 1), func(c *api.Core) { c.Answers = []api.Msg{{}} }), with(core(0, 0, 1), func(c *api.Core) { c.Answers = []api.Msg{answer, answer} }),
		with(core(0, 0, 1), func(c *api.Core) { c.Quiet = -1 }), with(core(0, 0, 1), func(c *api.Core) { c.Quiet = api.MaxNum + 1 }),
	}
}

func TestCheck(t *testing.T) {
	full := with(core(0, 1, 3), func(c *api.Core) {
		c.View, c.Normal, c.Status, c.Quiet, c.Nonce = 7, 6, api.SLeft, api.MaxNum, 1<<63
		c.Acks, c.Wants = []api.Ack{{Node: -5, Num: api.MaxNum}, {Node: 99}}, []int{-1, 70}
		c.Tails, c.Answers = []api.Tail{{Node: 1, State: base}}, []api.Msg{{Kind: api.MAnswer, From: 1}}
	})
	for _, c := range []api.Core{core(0, 0, 0), core(63, 0, 0), full} {
		if e := Check(c); e != api.OK {
			t.Error(e)
		}
	}
	for i, c := range bad() {
		if e := Check(c); e != api.ErrCore {
			t.Error(i, e)
		}
		if Leads(c) || Heard(c, msg(api.MCommit, 1, c.Me, nil)) {
			t.Error(i, "leads, or hears")
		}
		if next, said, e := Propose(c, entry(1, 0)); e != api.ErrCore || said != nil || !Same(next, api.Core{}) {
			t.Error(i, e)
		}
		next, said := Take(c, msg(api.MCommit, 0, c.Me, nil))
		is(t, "Take", next, said, c)
		next, said = Tick(c)
		is(t, "Tick", next, said, c)
	}
	if !Leads(core(0, 0, 0)) || Leads(core(1, 0, 0)) || !Leads(with(core(1, 0, 0), func(c *api.Core) { c.View = 4 })) || Leads(with(core(0, 0, 0), func(c *api.Core) { c.Status = api.SChange })) {
		t.Error("Leads")
	}
	if !Heard(core(0, 0, 0), msg(api.MCommit, 1, 0, nil)) {
		t.Error("Heard")
	}
	for i, m := range []api.Msg{msg(api.MCommit, 1, 1, nil), msg(api.MCommit, 0, 0, nil), msg(api.MCommit, 3, 0, nil), msg(api.MCommit, -1, 0, nil), msg(0, 1, 0, nil), msg(api.MCommit, 1, 0, func(m *api.Msg) { m.Epoch = 1 })} {
		if Heard(core(0, 0, 0), m) {
			t.Error(i)
		}
	}
}

func TestPropose(t *testing.T) {
	elsewhere := entry(1, 9) // its number and view are those of the log, whatever they were
	elsewhere.Num = 9
	c, said, e := Propose(core(0, 0, 0), elsewhere)
	prep := func(m *api.Msg) { m.Log = entries(1, 1) }
	want := with(core(0, 0, 1), func(c *api.Core) { c.Acks = []api.Ack{{Node: 0, Num: 1}} })
	is(t, "first", c, said, want, msg(api.MPrepare, 0, 1, prep), msg(api.MPrepare, 0, 2, prep))
	if e != api.OK {
		t.Error(e)
	}
	said[0].Log[0].Op.Data[0] = 99
	if said[1].Log[0].Op.Data[0] != 1 || c.L.Log[0].Op.Data[0] != 1 {
		t.Error("shared")
	}
	one := with(core(4, 0, 2), func(c *api.Core) { c.Group = api.Group{Epoch: 2, Members: []int{4}} })
	if c, said, e := Propose(one, entry(1, 0)); e != api.OK || said != nil || c.Commit != 3 {
		t.Error(c, said, e)
	}
	if _, _, e := Propose(core(1, 0, 0), entry(1, 0)); e != api.ErrNot {
		t.Error(e)
	}
	conf := entry(1, 0)
	conf.Kind, conf.Op, conf.Group = api.EConf, api.Op{}, three
	stop := core(0, 0, 1)
	stop.L.Log[0] = conf
	if _, _, e := Propose(stop, api.Entry{}); e != api.ErrStop {
		t.Error(e)
	}
	stop.Commit = 1
	if _, _, e := Propose(stop, entry(1, 0)); e != api.OK {
		t.Error(e)
	}
	if c, said, e := Propose(core(0, 0, 0), api.Entry{}); e != api.ErrEntry || said != nil || !Same(c, api.Core{}) {
		t.Error(e)
	}
	// Acknowledgements of what there is not yet commit nothing that is not there.
	wild := with(core(0, 0, 0), func(c *api.Core) { c.Acks = []api.Ack{{Node: 1, Num: 50}, {Node: 2, Num: 60}} })
	if c, _, e := Propose(wild, entry(1, 0)); e != api.OK || c.Commit != 1 || Check(c) != api.OK {
		t.Error(c.Commit, e)
	}
}

func TestFollow(t *testing.T) {
	quiet := func(c *api.Core) { c.Quiet = 3 }
	ok := func(num int) api.Msg { return msg(api.MPrepareOK, 1, 0, func(m *api.Msg) { m.Num = num }) }
	get := func(num int) api.Msg { return msg(api.MGetState, 1, 0, func(m *api.Msg) { m.Num = num }) }
	prepare := func(commit, from, to int) api.Msg {
		return msg(api.MPrepare, 0, 1, func(m *api.Msg) { m.Commit, m.Log = commit, entries(from, to) })
	}
	commit := func(n int) api.Msg { return msg(api.MCommit, 0, 1, func(m *api.Msg) { m.Commit = n }) }
	for _, x := range []struct {
		name   string
		c      api.Core
		m      api.Msg
		want   api.Core
		answer []api.Msg
	}{
		{"next", core(1, 0, 2), prepare(2, 3, 4), core(1, 2, 4), []api.Msg{ok(4)}},
		{"lapped", core(1, 1, 2), prepare(0, 1, 3), core(1, 1, 3), []api.Msg{ok(3)}},
		{"elder", core(1, 1, 3), prepare(9, 1, 2), core(1, 3, 3), []api.Msg{ok(3)}},
		{"gap", core(1, 1, 2), prepare(2, 4, 5), core(1, 1, 2), []api.Msg{get(1)}},
		{"commit", core(1, 1, 3), commit(2), core(1, 2, 3), []api.Msg{ok(3)}},
		{"commit less", core(1, 2, 3), commit(1), core(1, 2, 3), []api.Msg{ok(3)}},
		{"commit more", core(1, 1, 3), commit(4), core(1, 3, 3), []api.Msg{get(1), ok(3)}},
	} {
		c, said := Take(with(x.c, quiet), x.m)
		is(t, x.name, c, said, x.want, x.answer...)
	}
	nothing := func(name string, c api.Core, m api.Msg) {
		t.Helper()
		c = with(c, quiet)
		next, said := Take(c, m)
		is(t, name, next, said, c)
	}
	nothing("empty", core(1, 0, 2), msg(api.MPrepare, 0, 1, func(m *api.Msg) { m.Commit = 2 }))
	nothing("view", with(core(1, 0, 2), func(c *api.Core) { c.View = 3 }), prepare(2, 3, 4))
	nothing("not of the primary", core(1, 0, 2), with2(prepare(2, 3, 4), func(m *api.Msg) { m.From = 2 }))
	nothing("leads", core(0, 0, 2), msg(api.MPrepare, 1, 0, func(m *api.Msg) { m.Log = entries(3, 3) }))
	nothing("wants", with(core(1, 0, 2), func(c *api.Core) { c.Status = api.SChange }), commit(2))
	nothing("epoch", core(1, 0, 2), with2(commit(2), func(m *api.Msg) { m.Epoch = 3 }))
	nothing("kind", core(1, 0, 2), msg(api.MStartView, 0, 1, nil))
	// Who is no member follows.
	c, said := Take(core(7, 0, 2), msg(api.MCommit, 0, 7, nil))
	is(t, "no member", c, said, core(7, 0, 2), msg(api.MPrepareOK, 7, 0, func(m *api.Msg) { m.Num = 2 }))
}

func with2(m api.Msg, f func(*api.Msg)) api.Msg { f(&m); return m }

func TestPrepareOK(t *testing.T) {
	c := with(core(0, 0, 3), func(c *api.Core) { c.Acks = []api.Ack{{Node: 0, Num: 3}} })
	ok := func(from, num int) api.Msg { return msg(api.MPrepareOK, from, 0, func(m *api.Msg) { m.Num = num }) }
	next, said := Take(c, ok(2, 2))
	is(t, "two", next, said, with(c, func(c *api.Core) { c.Commit, c.Acks = 2, []api.Ack{{Node: 0, Num: 3}, {Node: 2, Num: 2}} }))
	again, said := Take(next, ok(2, 1))
	is(t, "less", again, said, next)
	again, said = Take(next, ok(1, 4))
	is(t, "too much", again, said, next)
	again, said = Take(core(1, 0, 3), msg(api.MPrepareOK, 2, 1, nil))
	is(t, "does not lead", again, said, core(1, 0, 3))
	last, _ := Take(next, ok(1, 3))
	if last.Commit != 3 {
		t.Error(last.Commit)
	}
}

func TestTick(t *testing.T) {
	c := with(core(0, 2, 12), func(c *api.Core) { c.Acks, c.Quiet = []api.Ack{{Node: 0, Num: 12}, {Node: 2, Num: 11}}, 5 })
	want := with(c, func(c *api.Core) { c.Quiet = 0 })
	next, said := Tick(c)
	is(t, "leads", next, said, want, msg(api.MPrepare, 0, 1, func(m *api.Msg) { m.Commit, m.Log = 2, entries(1, 8) }), msg(api.MPrepare, 0, 2, func(m *api.Msg) { m.Commit, m.Log = 2, entries(12, 12) }))
	c.Acks = []api.Ack{{Node: 1, Num: 13}, {Node: 2, Num: 12}}
	next, said = Tick(c)
	want.Acks = c.Acks
	commit := func(m *api.Msg) { m.Commit = 2 }
	is(t, "all have it", next, said, want, msg(api.MCommit, 0, 1, commit), msg(api.MCommit, 0, 2, commit))
	// What lies ahead of the base is not there: those behind it are told.
	l, _ := ledger.Trim(c.L, 2)
	c = with(c, func(c *api.Core) { c.L, c.Acks = l, []api.Ack{{Node: 1, Num: 1}} })
	_, said = Tick(c)
	is(t, "base", c, said, c, msg(api.MPrepare, 0, 1, func(m *api.Msg) { m.Commit, m.Log = 2, entries(3, 10) }), msg(api.MPrepare, 0, 2, func(m *api.Msg) { m.Commit, m.Log = 2, entries(3, 10) }))
	l, _ = ledger.Trim(c.L, 12)
	c = with(c, func(c *api.Core) { c.L, c.Commit = l, 12 })
	_, said = Tick(c)
	commit = func(m *api.Msg) { m.Commit = 12 }
	is(t, "no entries", c, said, c, msg(api.MCommit, 0, 1, commit), msg(api.MCommit, 0, 2, commit))
	for _, q := range [][2]int{{0, 1}, {4, 5}, {api.MaxNum, api.MaxNum}} {
		next, said := Tick(with(core(1, 0, 1), func(c *api.Core) { c.Quiet = q[0] }))
		is(t, "follows", next, said, with(core(1, 0, 1), func(c *api.Core) { c.Quiet = q[1] }))
	}
	for s := api.SChange; s <= api.SLeft; s++ {
		c := with(core(0, 0, 1), func(c *api.Core) { c.Status = s })
		next, said := Tick(c)
		is(t, "others", next, said, c)
	}
}

func TestSame(t *testing.T) {
	c := with(core(0, 1, 2), func(c *api.Core) {
		c.Acks, c.Wants, c.Tails, c.Answers = []api.Ack{{}}, []int{1}, []api.Tail{{Node: 1}}, []api.Msg{{From: 1}}
	})
	for i, f := range []func(*api.Core){
		func(c *api.Core) { c.Me++ }, func(c *api.Core) { c.Group.Epoch++ }, func(c *api.Core) { c.View++ }, func(c *api.Core) { c.Normal++ }, func(c *api.Core) { c.Status++ },
		func(c *api.Core) { c.L.Log = nil }, func(c *api.Core) { c.Commit++ }, func(c *api.Core) { c.Acks = []api.Ack{{Num: 1}} }, func(c *api.Core) { c.Wants = nil },
		func(c *api.Core) { c.Tails = []api.Tail{{Node: 2}} }, func(c *api.Core) { c.Nonce++ }, func(c *api.Core) { c.Answers = nil }, func(c *api.Core) { c.Quiet++ },
	} {
		if Same(c, with(c, f)) {
			t.Error(i)
		}
	}
	if !Same(c, c) {
		t.Error("itself")
	}
}
