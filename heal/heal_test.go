package heal

import (
	"slices"
	"testing"

	"plinth/api"
	"plinth/ledger"
	"plinth/normal"
	"plinth/wire"
)

var (
	three = api.Group{Epoch: 2, Members: []int{0, 1, 2}}
	base  = api.State{Shape: api.Shape{Blocks: 2, Size: 1}, Group: three}
)

func entries(from, to int) []api.Entry {
	var out []api.Entry
	for n := from; n <= to; n++ {
		out = append(out, api.Entry{Kind: api.EOp, Num: n, Client: 1, Serial: n, Op: api.Op{Kind: api.OpWrite, N: 1, Data: []byte{byte(n)}}})
	}
	return out
}

func log(last int) api.Ledger { return api.Ledger{State: base, Log: entries(1, last)} }

func core(me, view, commit, last int) api.Core {
	return api.Core{Me: me, Group: three, View: view, Normal: view, Status: api.SNormal, L: log(last), Commit: commit}
}

func wants(me, view, commit, last int) api.Core {
	c := core(me, view, commit, last)
	c.Normal, c.Status = 0, api.SChange
	return c
}

func lost(me int) api.Core {
	return api.Core{Me: me, Group: three, Status: api.SRecover, L: log(0), Nonce: 77}
}

func with(c api.Core, f func(*api.Core)) api.Core { f(&c); return c }

func msg(kind api.MsgKind, from, to, view int) api.Msg {
	return api.Msg{Kind: kind, From: from, To: to, Epoch: 2, View: view}
}

func num(m api.Msg, n int) api.Msg { m.Num = n; return m }

func nonce(m api.Msg, n uint64) api.Msg { m.Nonce = n; return m }

func tells(m api.Msg, commit int, st api.State, es []api.Entry) api.Msg {
	m.Commit, m.State, m.Log = commit, st, es
	return m
}

func is(t *testing.T, name string, c api.Core, said []api.Msg, want api.Core, l ...api.Msg) {
	t.Helper()
	if !normal.Same(c, want) {
		t.Errorf("%s: core %+v, not %+v", name, c, want)
	}
	if !slices.EqualFunc(said, l, wire.Same) {
		t.Errorf("%s: said %+v, not %+v", name, said, l)
	}
	if normal.Check(want) == api.OK && normal.Check(c) != api.OK {
		t.Errorf("%s: a core that may not be", name)
	}
}

func TestLost(t *testing.T) {
	ask := func(to int) api.Msg { return nonce(msg(api.MRecover, 2, to, 0), 77) }
	c, said, e := Lost(2, three, base, 77)
	is(t, "lost", c, said, lost(2), ask(0), ask(1))
	if e != api.OK {
		t.Error(e)
	}
	c, said = Tick(lost(2))
	is(t, "tick", c, said, lost(2), ask(0), ask(1))
	for _, c := range []api.Core{core(2, 0, 0, 0), wants(2, 1, 0, 0), with(lost(2), func(c *api.Core) { c.Me = -1 })} {
		next, said := Tick(c)
		is(t, "no tick", next, said, c)
	}
	for _, x := range []struct {
		me   int
		g    api.Group
		st   api.State
		want api.Errno
	}{{-1, three, base, api.ErrCore}, {2, api.Group{}, base, api.ErrCore}, {2, three, api.State{}, api.ErrCore}, {7, three, base, api.ErrNot}} {
		if c, said, e := Lost(x.me, x.g, x.st, 1); e != x.want || said != nil || !normal.Same(c, api.Core{}) {
			t.Error(x, e)
		}
	}
}

func TestGetState(t *testing.T) {
	c := core(0, 3, 2, 4)
	next, said := Take(c, num(msg(api.MGetState, 1, 0, 3), 2))
	is(t, "entries", next, said, c, tells(msg(api.MNewState, 0, 1, 3), 2, api.State{}, entries(3, 4)))
	_, said = Take(c, num(msg(api.MGetState, 1, 0, 1), 9))
	is(t, "nothing more", c, said, c, tells(msg(api.MNewState, 0, 1, 3), 2, api.State{}, nil))
	l, _ := ledger.Trim(c.L, 2)
	c.L = l
	_, said = Take(c, num(msg(api.MGetState, 1, 0, 3), 1))
	is(t, "pages", c, said, c, tells(msg(api.MNewState, 0, 1, 3), 2, l.State, entries(3, 4)))
	for _, x := range []struct {
		c api.Core
		m api.Msg
	}{{c, msg(api.MGetState, 1, 0, 4)}, {wants(0, 3, 2, 4), msg(api.MGetState, 1, 0, 3)}, {c, msg(api.MGetState, 9, 0, 3)}, {with(c, func(c *api.Core) { c.Status = api.SLeft }), msg(api.MGetState, 1, 0, 3)}} {
		next, said := Take(x.c, x.m)
		is(t, "nothing", next, said, x.c)
	}
}

func TestNewState(t *testing.T) {
	full := with(core(2, 1, 1, 2), func(c *api.Core) {
		c.Quiet, c.Nonce, c.Acks, c.Wants, c.Answers = 5, 8, []api.Ack{{Node: 1}}, []int{1}, []api.Msg{{Kind: api.MAnswer, From: 1}}
	})
	news := func(view, commit, from, to int) api.Msg {
		return tells(msg(api.MNewState, 0, 2, view), commit, api.State{}, entries(from, to))
	}
	ok := func(to, view, n int) api.Msg { return num(msg(api.MPrepareOK, 2, to, view), n) }
	for _, x := range []struct {
		name string
		c    api.Core
		m    api.Msg
		want api.Core
		said []api.Msg
	}{
		{"follows", full, news(1, 3, 2, 4), core(2, 1, 3, 4), []api.Msg{ok(1, 1, 4)}},
		{"as much", full, news(1, 9, 2, 2), core(2, 1, 2, 2), []api.Msg{ok(1, 1, 2)}},
		{"a later view", full, news(4, 1, 2, 2), core(2, 4, 1, 2), []api.Msg{ok(1, 4, 2)}},
		{"a later view, nothing told", full, news(4, 2, 1, 0), core(2, 4, 2, 2), []api.Msg{ok(1, 4, 2)}},
		{"wants", wants(2, 1, 1, 3), news(1, 2, 2, 2), core(2, 1, 2, 2), []api.Msg{ok(1, 1, 2)}},
		{"less", full, news(1, 1, 1, 1), full, nil},
		{"nothing told", full, news(1, 2, 1, 0), full, nil},
		{"an elder view", full, news(0, 3, 2, 4), full, nil},
		{"a gap", full, news(1, 3, 3, 4), full, nil},
		{"the primary", core(0, 0, 1, 2), tells(msg(api.MNewState, 2, 0, 3), 3, api.State{}, entries(2, 4)), core(0, 0, 1, 2), nil},
		{"recovers", lost(2), news(1, 3, 1, 4), lost(2), nil},
	} {
		c, said := Take(x.c, x.m)
		is(t, x.name, c, said, x.want, x.said...)
	}
	cut, _ := ledger.Trim(log(5), 4)
	c, said := Take(full, tells(msg(api.MNewState, 0, 2, 1), 4, cut.State, cut.Log))
	is(t, "pages", c, said, with(core(2, 1, 4, 0), func(c *api.Core) { c.L = cut }), ok(1, 1, 5))
	c, said = Take(full, tells(msg(api.MNewState, 0, 2, 1), 3, cut.State, cut.Log))
	is(t, "a checkpoint that is not committed", c, said, full)
}

func TestBehind(t *testing.T) {
	for _, kind := range []api.MsgKind{api.MPrepare, api.MCommit} {
		for _, x := range []struct {
			c    api.Core
			from int
			view int
			want bool
		}{
			{core(2, 0, 1, 2), 1, 1, true}, {wants(2, 1, 1, 2), 1, 1, true}, {core(2, 1, 1, 2), 1, 1, false}, {core(2, 4, 1, 2), 1, 1, false},
			{core(2, 0, 1, 2), 0, 1, false}, {core(2, 0, 1, 2), 1, 2, false}, {lost(2), 1, 1, false},
		} {
			c, said := Take(x.c, msg(kind, x.from, 2, x.view))
			var want []api.Msg
			if x.want {
				want = []api.Msg{num(msg(api.MGetState, 2, x.from, x.view), 1)}
			}
			is(t, "behind", c, said, x.c, want...)
		}
	}
}

func TestRecover(t *testing.T) {
	m := nonce(msg(api.MRecover, 2, 0, 0), 9)
	lead, follow := core(0, 3, 1, 2), core(0, 4, 1, 2)
	c, said := Take(lead, m)
	is(t, "leads", c, said, lead, tells(nonce(msg(api.MAnswer, 0, 2, 3), 9), 1, base, entries(1, 2)))
	c, said = Take(follow, m)
	is(t, "follows", c, said, follow, nonce(msg(api.MAnswer, 0, 2, 4), 9))
	c, said = Take(wants(0, 4, 1, 2), m)
	is(t, "wants", c, said, wants(0, 4, 1, 2))
}

func TestAnswer(t *testing.T) {
	short := func(from, view int) api.Msg { return nonce(msg(api.MAnswer, from, 2, view), 77) }
	long := func(from, view, last int) api.Msg { return tells(short(from, view), last, base, entries(1, last)) }
	has := func(l ...api.Msg) api.Core { return with(lost(2), func(c *api.Core) { c.Answers = l }) }
	take := func(c api.Core, m api.Msg, want api.Core, l ...api.Msg) {
		t.Helper()
		got, said := Take(c, m)
		is(t, "answer", got, said, want, l...)
	}
	take(lost(2), short(1, 3), has(short(1, 3)))
	take(lost(2), nonce(long(0, 3, 4), 78), lost(2))
	take(core(2, 0, 0, 0), short(1, 3), core(2, 0, 0, 0))
	healed := with(core(2, 3, 4, 4), func(c *api.Core) {})
	ok := num(msg(api.MPrepareOK, 2, 0, 3), 4)
	take(has(short(1, 3)), long(0, 3, 4), healed, ok)
	take(has(long(0, 3, 4)), short(1, 1), healed, ok)
	// The primary of the greatest view has not answered in it.
	take(has(long(0, 3, 4)), short(1, 4), has(long(0, 3, 4), short(1, 4)))
	take(has(short(1, 4)), long(0, 3, 4), has(long(0, 3, 4), short(1, 4)))
	take(has(short(1, 3)), short(0, 3), has(short(0, 3), short(1, 3)))
	// One of an elder view does not take the place of a later one.
	take(has(short(1, 3)), short(1, 2), has(short(1, 3)))
	take(has(short(1, 3)), long(1, 3, 2), has(long(1, 3, 2)))
	take(has(short(1, 3)), short(1, 7), has(short(1, 7)))
	five := func(l ...api.Msg) api.Core {
		return with(has(l...), func(c *api.Core) { c.Group.Members = []int{0, 1, 2, 3, 4} })
	}
	take(five(short(1, 5)), long(0, 5, 4), five(long(0, 5, 4), short(1, 5)))
	c, said := Take(five(long(0, 5, 4), short(1, 5)), short(4, 2))
	if c.Status != api.SNormal || c.View != 5 || c.Nonce != 0 || c.Answers != nil || len(said) != 1 {
		t.Error(c, said)
	}
	one := lost(2)
	one.Group.Members = []int{2}
	take(one, long(0, 3, 4), one)
}
