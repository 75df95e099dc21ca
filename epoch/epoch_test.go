package epoch

import (
	"slices"
	"testing"

	"plinth/api"
	"plinth/ledger"
	"plinth/normal"
	"plinth/wire"
)

var (
	old  = api.Group{Members: []int{0, 1, 2}}
	next = api.Group{Epoch: 1, Members: []int{0, 1, 3}}
	base = api.State{Shape: api.Shape{Blocks: 2, Size: 1}, Group: old}
)

func entry(n int) api.Entry {
	return api.Entry{Kind: api.EOp, Num: n, Client: 1, Serial: n, Op: api.Op{Kind: api.OpWrite, N: 1, Data: []byte{byte(n)}}}
}

func conf(n, view int, g api.Group) api.Entry {
	return api.Entry{Kind: api.EConf, Num: n, View: view, Client: 1, Serial: n, Group: g}
}

// log has an EConf at 3, of view 0, and an entry behind it.
func log() api.Ledger {
	return api.Ledger{State: base, Log: []api.Entry{entry(1), entry(2), conf(3, 0, next), entry(4)}}
}

func upTo(n int) api.Ledger { l, _ := ledger.Cut(log(), n); return l }

func core(me, commit int) api.Core {
	return api.Core{Me: me, Group: old, Status: api.SNormal, L: log(), Commit: commit}
}

// over is the core of one that has gone over, to view 1.
func over(me int) api.Core {
	c := api.Core{Me: me, Group: next, View: 1, Normal: 1, Status: api.SNormal, L: upTo(3), Commit: 3}
	if me == 1 {
		c.Acks = []api.Ack{{Node: 1, Num: 3}}
	}
	if me == 2 {
		c.Status = api.SLeft
	}
	return c
}

func joins(me int) api.Core {
	return api.Core{Me: me, Group: old, Status: api.SJoin, L: upTo(0)}
}

func with(c api.Core, f func(*api.Core)) api.Core { f(&c); return c }

func msg(kind api.MsgKind, from, to, epoch, view int) api.Msg {
	return api.Msg{Kind: kind, From: from, To: to, Epoch: epoch, View: view}
}

func of(m api.Msg, g api.Group, num int) api.Msg { m.Group, m.Num = g, num; return m }

func tells(m api.Msg, commit int, l api.Ledger) api.Msg {
	m.Group, m.Commit, m.State, m.Log = next, commit, l.State, l.Log
	return m
}

func is(t *testing.T, name string, c api.Core, said []api.Msg, want api.Core, l ...api.Msg) {
	t.Helper()
	if !normal.Same(c, want) {
		t.Errorf("%s: core %+v, not %+v", name, c, want)
	}
	if !slices.EqualFunc(said, l, wire.Same) {
		t.Errorf("%s: said %+v, not %+v", name, said, l)
	}
	if normal.Check(want) == api.OK && normal.Check(c) != api.OK {
		t.Errorf("%s: a core that may not be", name)
	}
}

func TestEnter(t *testing.T) {
	for me := range 3 {
		c, said, e := Enter(core(me, 3), 3)
		is(t, "enter", c, said, over(me), of(msg(api.MStartEpoch, me, 3, 1, 1), next, 3))
		if e != api.OK {
			t.Error(e)
		}
	}
	full := with(core(0, 4), func(c *api.Core) {
		c.View, c.Status, c.Quiet, c.Nonce, c.Wants, c.Acks = 5, api.SChange, 3, 9, []int{1}, []api.Ack{{Node: 2}}
		c.Tails, c.Answers = []api.Tail{{Node: 1, State: base}}, []api.Msg{{Kind: api.MAnswer, From: 1}}
	})
	c, said, _ := Enter(full, 3)
	is(t, "all else is forgotten", c, said, over(0), of(msg(api.MStartEpoch, 0, 3, 1, 1), next, 3))
	last := core(0, 3)
	last.L.Log[2].View = api.MaxNum
	skip := core(0, 3)
	skip.L.Log[2].Group.Epoch = 2
	for i, x := range []struct {
		c    api.Core
		num  int
		want api.Errno
	}{
		{api.Core{}, 3, api.ErrCore}, {with(core(0, 3), func(c *api.Core) { c.Status = api.SLeft }), 9, api.ErrNot}, {with(core(0, 3), func(c *api.Core) { c.Status = api.SRecover }), 3, api.ErrNot},
		{joins(3), 3, api.ErrNot}, {core(0, 3), 0, api.ErrRange}, {core(0, 3), 4, api.ErrRange}, {core(0, 2), 3, api.ErrRange}, {core(0, 4), 5, api.ErrRange},
		{core(0, 4), 4, api.ErrEntry}, {last, 3, api.ErrEntry}, {skip, 3, api.ErrEntry},
	} {
		if c, said, e := Enter(x.c, x.num); e != x.want || said != nil || !normal.Same(c, api.Core{}) {
			t.Error(i, e)
		}
	}
}

func TestJoin(t *testing.T) {
	if c, e := Join(3, base); e != api.OK || !normal.Same(c, joins(3)) {
		t.Error(c, e)
	}
	for _, me := range []int{-1, 64} {
		if c, e := Join(me, base); e != api.ErrCore || !normal.Same(c, api.Core{}) {
			t.Error(e)
		}
	}
	if _, e := Join(1, api.State{}); e != api.ErrCore {
		t.Error(e)
	}
}

func TestStartEpoch(t *testing.T) {
	start := of(msg(api.MStartEpoch, 0, 3, 1, 1), next, 3)
	want := with(joins(3), func(c *api.Core) { c.Group = next })
	c, said := Take(joins(3), start)
	is(t, "invited", c, said, want, msg(api.MGetState, 3, 0, 1, 0))
	c, said = Take(want, start)
	is(t, "again", c, said, want, msg(api.MGetState, 3, 0, 1, 0))
	for i, x := range []struct {
		c api.Core
		m api.Msg
	}{
		{joins(4), of(msg(api.MStartEpoch, 0, 4, 1, 1), next, 3)}, {joins(3), of(start, api.Group{}, 3)}, {joins(3), of(start, api.Group{Epoch: 2, Members: []int{3}}, 3)},
		{joins(3), of(msg(api.MStartEpoch, 0, 3, 0, 1), api.Group{Members: []int{3}}, 3)}, {with(joins(3), func(c *api.Core) { c.Group.Epoch = 2 }), start},
		{joins(3), of(msg(api.MStartEpoch, -1, 3, 1, 1), next, 3)}, {joins(3), of(msg(api.MStartEpoch, 3, 3, 1, 1), next, 3)}, {joins(2), start}, {over(0), start},
	} {
		c, said := Take(x.c, x.m)
		is(t, "nothing", c, said, x.c)
		if said != nil {
			t.Error(i)
		}
	}
}

func TestNewState(t *testing.T) {
	news := func(to, commit int, l api.Ledger) api.Msg { return tells(msg(api.MNewState, 1, to, 1, 1), commit, l) }
	ok := func(me int) api.Msg { return of(msg(api.MPrepareOK, me, 1, 1, 1), api.Group{}, 3) }
	took := func(me int) api.Core { return over(me) }
	for _, s := range []api.Status{api.SNormal, api.SChange, api.SJoin} {
		for _, me := range []int{0, 2, 3} {
			c := with(joins(me), func(c *api.Core) { c.Status, c.Quiet = s, 4 })
			got, said := Take(c, news(me, 3, upTo(3)))
			var want []api.Msg
			if me != 2 {
				want = []api.Msg{ok(me)}
			}
			is(t, "over", got, said, took(me), want...)
		}
	}
	c, said := Take(with(joins(1), func(c *api.Core) { c.Status = api.SNormal }), tells(msg(api.MNewState, 0, 1, 1, 1), 3, upTo(3)))
	is(t, "the primary", c, said, over(1))
	invited := with(joins(3), func(c *api.Core) { c.Group = next })
	m := news(3, 3, upTo(3))
	m.Group = api.Group{}
	c, said = Take(invited, m)
	is(t, "of its epoch", c, said, over(3), ok(3))
	cut, _ := ledger.Trim(upTo(3), 3)
	c, said = Take(invited, news(3, 3, cut))
	is(t, "pages", c, said, with(over(3), func(c *api.Core) { c.L = cut }), ok(3))
	part := news(3, 9, log())
	part.View = 4
	c, _ = Take(joins(3), part)
	if c.Commit != 4 || c.View != 4 || c.Normal != 4 || normal.Check(c) != api.OK {
		t.Error("more behind it", c)
	}
	for i, x := range []struct {
		c api.Core
		m api.Msg
	}{
		{joins(3), news(3, 2, upTo(3))}, {joins(3), news(3, 2, cut)}, {joins(3), news(3, 9, upTo(2))}, {joins(3), of(news(3, 3, upTo(3)), old, 0)}, {joins(3), of(news(3, 3, upTo(3)), api.Group{}, 0)},
		{joins(3), of(news(3, 3, upTo(3)), api.Group{Epoch: 1, Members: []int{3}}, 0)}, {with(core(0, 0), func(c *api.Core) { c.Status = api.SRecover }), news(0, 3, upTo(3))},
		{with(core(0, 0), func(c *api.Core) { c.Status = api.SLeft }), news(0, 3, upTo(3))}, {over(0), news(0, 3, upTo(3))}, {with(over(0), func(c *api.Core) { c.Group.Epoch = 2 }), news(0, 3, upTo(3))},
		{core(0, 3), news(0, 3, api.Ledger{State: base, Log: []api.Entry{entry(1), entry(2), conf(3, 1, next)}})},
	} {
		c, said := Take(x.c, x.m)
		is(t, "nothing", c, said, x.c)
		if said != nil {
			t.Error(i)
		}
	}
}

func TestNews(t *testing.T) {
	get := of(msg(api.MGetState, 3, 2, 1, 0), api.Group{}, 2)
	told := tells(msg(api.MNewState, 2, 3, 1, 1), 3, api.Ledger{Log: []api.Entry{conf(3, 0, next)}})
	c, said := Take(over(2), get)
	is(t, "left", c, said, over(2), told)
	get.Epoch = 0
	c, said = Take(over(2), get)
	is(t, "left, elder", c, said, over(2), told)
	get.To = 0
	told.From = 0
	c, said = Take(over(0), get)
	is(t, "elder", c, said, over(0), told)
	get.Epoch = 1
	c, said = Take(over(0), get)
	is(t, "its own epoch", c, said, over(0))
	for kind := api.MRequest; kind <= api.MNewEpoch; kind++ {
		m := of(msg(kind, 2, 0, 0, 9), api.Group{}, 1)
		c, said := Take(over(0), m)
		switch kind {
		case api.MRequest, api.MReply, api.MNewState, api.MNewEpoch:
			is(t, "no news", c, said, over(0))
		case api.MGetState:
			is(t, "asked", c, said, over(0), tells(msg(api.MNewState, 0, 2, 1, 1), 3, api.Ledger{Log: upTo(3).Log[1:]}))
		default:
			is(t, "news", c, said, over(0), tells(msg(api.MNewState, 0, 2, 1, 1), 3, api.Ledger{Log: upTo(3).Log}))
		}
		for _, s := range []api.Status{api.SChange, api.SRecover, api.SJoin} {
			x := with(over(0), func(c *api.Core) { c.Status = s })
			c, said := Take(x, m)
			is(t, "another status", c, said, x)
		}
	}
}

func TestTick(t *testing.T) {
	invite := func(me, to int) api.Msg { return of(msg(api.MStartEpoch, me, to, 1, 1), next, 3) }
	invited := with(joins(3), func(c *api.Core) { c.Group = next })
	c, said := Tick(invited)
	is(t, "joins", c, said, invited, msg(api.MGetState, 3, 0, 1, 0), msg(api.MGetState, 3, 1, 1, 0))
	c, said = Tick(joins(3))
	is(t, "not invited", c, said, joins(3))
	lead := with(over(1), func(c *api.Core) { c.Acks = append(c.Acks, api.Ack{Node: 3}) })
	c, said = Tick(lead)
	is(t, "leads", c, said, lead, invite(1, 0))
	wish := with(over(0), func(c *api.Core) { c.Status = api.SChange })
	for q, want := range map[int][]api.Msg{0: nil, 3: nil, 4: {invite(0, 1), invite(0, 3)}, 8: {invite(0, 1), invite(0, 3)}} {
		wish.Quiet = q
		c, said = Tick(wish)
		is(t, "wants", c, said, wish, want...)
	}
	for q, want := range map[int][]api.Msg{0: nil, 3: {invite(2, 0), invite(2, 1), invite(2, 3)}, 4: nil} {
		left := with(over(2), func(c *api.Core) { c.Quiet = q })
		c, said = Tick(left)
		is(t, "left", c, said, with(left, func(c *api.Core) { c.Quiet++ }), want...)
	}
	end := with(over(2), func(c *api.Core) { c.Quiet = api.MaxNum })
	if c, _ := Tick(end); c.Quiet != api.MaxNum {
		t.Error(c.Quiet)
	}
	for _, c := range []api.Core{{}, over(0), with(core(1, 0), func(c *api.Core) { c.View, c.Normal = 1, 1 }), with(core(1, 0), func(c *api.Core) { c.Status, c.Quiet = api.SLeft, 3 }), with(core(1, 0), func(c *api.Core) { c.Status, c.Quiet = api.SChange, 4 })} {
		next, said := Tick(c)
		is(t, "nothing", next, said, c)
	}
}
