package change

import (
	"slices"
	"testing"

	"plinth/api"
	"plinth/ledger"
	"plinth/normal"
	"plinth/wire"
)

var (
	three = api.Group{Epoch: 2, Members: []int{0, 1, 2}}
	base  = api.State{Shape: api.Shape{Blocks: 2, Size: 1}, Group: three}
)

func entries(from, to, view int) []api.Entry {
	var out []api.Entry
	for n := from; n <= to; n++ {
		out = append(out, api.Entry{Kind: api.EOp, Num: n, View: view, Client: 1, Serial: n, Op: api.Op{Kind: api.OpWrite, N: 1, Data: []byte{byte(n)}}})
	}
	return out
}

func core(me, view, commit, last int) api.Core {
	return api.Core{Me: me, Group: three, View: view, Normal: view, Status: api.SNormal, L: api.Ledger{State: base, Log: entries(1, last, 0)}, Commit: commit}
}

func wants(me, view, commit, last int) api.Core {
	c := core(me, view, commit, last)
	c.Normal, c.Status = 0, api.SChange
	return c
}

func with(c api.Core, f func(*api.Core)) api.Core { f(&c); return c }

func msg(kind api.MsgKind, from, to, view int) api.Msg {
	return api.Msg{Kind: kind, From: from, To: to, Epoch: 2, View: view}
}

func tells(m api.Msg, normal, commit int, l api.Ledger) api.Msg {
	m.Normal, m.Commit, m.State, m.Log = normal, commit, l.State, l.Log
	return m
}

func okOf(m api.Msg, num int) api.Msg { m.Num = num; return m }

func is(t *testing.T, name string, c api.Core, said []api.Msg, want api.Core, l ...api.Msg) {
	t.Helper()
	if !normal.Same(c, want) {
		t.Errorf("%s: core %+v, not %+v", name, c, want)
	}
	if !slices.EqualFunc(said, l, wire.Same) {
		t.Errorf("%s: said %+v, not %+v", name, said, l)
	}
	if normal.Check(want) == api.OK && normal.Check(c) != api.OK {
		t.Errorf("%s: a core that may not be", name)
	}
}

func starts(me, view int) []api.Msg {
	var out []api.Msg
	for _, to := range []int{0, 1, 2} {
		if to != me {
			out = append(out, msg(api.MStartChange, me, to, view))
		}
	}
	return out
}

func TestStart(t *testing.T) {
	c := with(core(1, 0, 1, 2), func(c *api.Core) {
		c.Acks, c.Wants, c.Tails, c.Quiet = []api.Ack{{Node: 1, Num: 2}}, []int{0}, []api.Tail{{Node: 0, State: base}}, 5
	})
	next, said, e := Start(c, 2)
	is(t, "start", next, said, wants(1, 2, 1, 2), starts(1, 2)...)
	if e != api.OK {
		t.Error(e)
	}
	one := with(core(0, 0, 1, 2), func(c *api.Core) { c.Group.Members = []int{0} })
	next, said, e = Start(one, 3)
	is(t, "alone", next, said, with(one, func(c *api.Core) { c.View, c.Normal, c.Commit, c.Acks = 3, 3, 2, []api.Ack{{Node: 0, Num: 2}} }))
	if e != api.OK {
		t.Error(e)
	}
	for i, x := range []struct {
		c    api.Core
		view int
		want api.Errno
	}{
		{api.Core{}, 9, api.ErrCore}, {core(7, 0, 0, 0), 0, api.ErrNot}, {with(core(1, 0, 0, 0), func(c *api.Core) { c.Status = api.SRecover }), 9, api.ErrNot},
		{with(core(1, 0, 0, 0), func(c *api.Core) { c.Status = api.SJoin }), 9, api.ErrNot}, {with(core(1, 0, 0, 0), func(c *api.Core) { c.Status = api.SLeft }), 9, api.ErrNot},
		{core(1, 4, 0, 0), 4, api.ErrArg}, {core(1, 4, 0, 0), -1, api.ErrArg}, {core(1, 4, 0, 0), api.MaxNum + 1, api.ErrArg},
	} {
		if next, said, e := Start(x.c, x.view); e != x.want || said != nil || !normal.Same(next, api.Core{}) {
			t.Error(i, e)
		}
	}
}

func TestStartChange(t *testing.T) {
	c := core(2, 0, 1, 2)
	next, said := Take(c, msg(api.MStartChange, 1, 2, 1))
	want := with(wants(2, 1, 1, 2), func(c *api.Core) { c.Wants = []int{1} })
	do := tells(msg(api.MDoChange, 2, 1, 1), 0, 1, c.L)
	is(t, "above", next, said, want, append(starts(2, 1), do)...)
	again, said := Take(next, msg(api.MStartChange, 1, 2, 1))
	is(t, "twice", again, said, want, do)
	again, said = Take(wants(1, 1, 0, 0), msg(api.MStartChange, 2, 1, 1))
	is(t, "the primary waits for tails", again, said, with(wants(1, 1, 0, 0), func(c *api.Core) { c.Wants = []int{2} }))
	again, said = Take(next, msg(api.MStartChange, 0, 2, 0))
	is(t, "below, wants", again, said, want, msg(api.MStartChange, 2, 0, 1))
	lead := core(1, 1, 1, 2)
	view := tells(msg(api.MStartView, 1, 2, 1), 0, 1, lead.L)
	for _, v := range []int{0, 1} {
		again, said = Take(lead, msg(api.MStartChange, 2, 1, v))
		is(t, "leads", again, said, lead, view)
	}
	for _, v := range []int{0, 1} {
		again, said = Take(core(2, 1, 1, 2), msg(api.MStartChange, 0, 2, v))
		is(t, "follows", again, said, core(2, 1, 1, 2))
	}
	for _, s := range []api.Status{api.SRecover, api.SJoin, api.SLeft} {
		c := with(core(2, 0, 1, 2), func(c *api.Core) { c.Status = s })
		again, said = Take(c, msg(api.MStartChange, 1, 2, 1))
		is(t, "another status", again, said, c)
	}
	m := msg(api.MStartChange, 1, 2, 1)
	m.Epoch = 3
	again, said = Take(c, m)
	is(t, "not heard", again, said, c)
}

func TestDoChange(t *testing.T) {
	c := core(1, 0, 1, 2)
	other := api.Ledger{State: base, Log: entries(1, 4, 0)}
	tail := func(node, normal, commit int, l api.Ledger) api.Tail {
		return api.Tail{Node: node, Normal: normal, Commit: commit, State: l.State, Log: l.Log}
	}
	led := func(commit int, l api.Ledger) api.Core {
		return with(core(1, 1, commit, 0), func(c *api.Core) { c.L, c.Acks = l, []api.Ack{{Node: 1, Num: ledger.Last(l)}} })
	}
	view := func(to, commit int, l api.Ledger) api.Msg {
		return tells(msg(api.MStartView, 1, to, 1), 0, commit, l)
	}
	next, said := Take(c, tells(msg(api.MDoChange, 2, 1, 1), 0, 3, other))
	is(t, "longer", next, said, led(3, other), append(starts(1, 1), view(0, 3, other), view(2, 3, other))...)
	again, said := Take(next, tells(msg(api.MDoChange, 0, 1, 1), 0, 3, other))
	is(t, "again", again, said, next, view(0, 3, other))
	again, said = Take(next, tells(msg(api.MDoChange, 0, 1, 0), 0, 3, other))
	is(t, "below", again, said, next)
	// Its own one is the first of alike ones, and one of a later view is better than a longer one.
	short := api.Ledger{State: base, Log: entries(1, 2, 3)}
	next, said = Take(wants(1, 1, 1, 2), tells(msg(api.MDoChange, 2, 1, 1), 0, 2, short))
	is(t, "its own", next, said, led(2, c.L), view(0, 2, c.L), view(2, 2, c.L))
	late := api.Ledger{State: base, Log: append(entries(1, 1, 0), entries(2, 2, 3)...)}
	next, said = Take(wants(1, 4, 1, 5), tells(msg(api.MDoChange, 2, 1, 4), 3, 1, late))
	want := with(led(1, late), func(c *api.Core) { c.View, c.Normal = 4, 4 })
	is(t, "later", next, said, want, tells(msg(api.MStartView, 1, 0, 4), 0, 1, late), tells(msg(api.MStartView, 1, 2, 4), 0, 1, late))
	// One that does not join what is committed is kept, and does not lead.
	clash := api.Ledger{State: base, Log: entries(1, 4, 9)}
	w := wants(1, 4, 1, 2)
	next, said = Take(w, tells(msg(api.MDoChange, 2, 1, 4), 3, 1, clash))
	is(t, "clash", next, said, with(w, func(c *api.Core) { c.Tails = []api.Tail{tail(2, 3, 1, clash)} }))
	next, said = Take(w, tells(msg(api.MDoChange, 2, 1, 4), 3, 9, other))
	is(t, "a tail that may not be", next, said, w)
	five := with(wants(1, 1, 1, 2), func(c *api.Core) { c.Group.Members = []int{0, 1, 2, 3, 4} })
	next, said = Take(five, tells(msg(api.MDoChange, 2, 1, 1), 0, 1, other))
	is(t, "too few", next, said, with(five, func(c *api.Core) { c.Tails = []api.Tail{tail(2, 0, 1, other)} }))
	next, said = Take(core(2, 0, 0, 0), msg(api.MDoChange, 0, 2, 1))
	is(t, "not the primary", next, said, core(2, 0, 0, 0))
	// A checkpoint above what it has: its commit is not below that.
	l, _ := ledger.Trim(other, 3)
	next, _ = Take(wants(1, 1, 1, 2), tells(msg(api.MDoChange, 2, 1, 1), 0, 3, l))
	if next.Commit != 3 || next.L.State.Num != 3 || normal.Check(next) != api.OK {
		t.Error(next)
	}
}

func TestStartView(t *testing.T) {
	c := with(core(2, 0, 1, 2), func(c *api.Core) { c.Quiet, c.Acks, c.Wants = 3, []api.Ack{{Node: 1}}, []int{1} })
	l := api.Ledger{State: base, Log: append(entries(1, 1, 0), entries(2, 3, 1)...)}
	want := with(core(2, 1, 2, 0), func(c *api.Core) { c.L = l })
	ok := okOf(msg(api.MPrepareOK, 2, 1, 1), 3)
	next, said := Take(c, tells(msg(api.MStartView, 1, 2, 1), 0, 2, l))
	is(t, "above", next, said, want, ok)
	next, said = Take(wants(2, 1, 1, 2), tells(msg(api.MStartView, 1, 2, 1), 0, 2, l))
	is(t, "wanted", next, said, want, ok)
	next, said = Take(want, tells(msg(api.MStartView, 1, 2, 1), 0, 3, l))
	is(t, "follows", next, said, want, ok)
	for i, x := range []struct {
		c api.Core
		m api.Msg
	}{
		{core(2, 4, 1, 2), msg(api.MStartView, 1, 2, 1)}, {c, msg(api.MStartView, 0, 2, 1)}, {c, tells(msg(api.MStartView, 1, 2, 1), 0, 2, api.Ledger{State: base, Log: entries(1, 3, 9)})},
		{with(wants(2, 1, 1, 2), func(c *api.Core) { c.Status = api.SRecover }), tells(msg(api.MStartView, 1, 2, 1), 0, 2, l)},
	} {
		next, said := Take(x.c, x.m)
		is(t, "nothing", next, said, x.c)
		if said != nil {
			t.Error(i)
		}
	}
	// A checkpoint above both commits is not taken.
	cut, _ := ledger.Trim(l, 3)
	next, said = Take(c, tells(msg(api.MStartView, 1, 2, 1), 0, 2, cut))
	is(t, "beyond", next, said, c)
	next, said = Take(c, tells(msg(api.MStartView, 1, 2, 1), 0, 9, cut))
	is(t, "a checkpoint", next, said, with(want, func(c *api.Core) { c.L, c.Commit = cut, 3 }), ok)
	next, said = Take(c, msg(api.MStartView, 1, 2, 1))
	is(t, "nothing told", next, said, with(core(2, 1, 1, 2), func(*api.Core) {}), okOf(msg(api.MPrepareOK, 2, 1, 1), 2))
}

func TestTick(t *testing.T) {
	quiet := func(n int) func(*api.Core) { return func(c *api.Core) { c.Quiet = n } }
	next, said := Tick(with(core(1, 0, 1, 2), quiet(4)))
	is(t, "patience", next, said, wants(1, 1, 1, 2), starts(1, 1)...)
	for _, c := range []api.Core{with(core(1, 0, 1, 2), quiet(3)), with(core(0, 0, 1, 2), quiet(9)), with(core(7, 0, 1, 2), quiet(9)), with(core(1, api.MaxNum, 1, 2), quiet(9)), {},
		with(core(1, 0, 0, 0), func(c *api.Core) { c.Quiet, c.Status = 9, api.SLeft })} {
		next, said := Tick(c)
		is(t, "nothing", next, said, c)
	}
	w := with(wants(2, 1, 1, 2), func(c *api.Core) { c.Quiet, c.Wants = 6, []int{0} })
	next, said = Tick(w)
	is(t, "again", next, said, with(w, quiet(7)), append(starts(2, 1), tells(msg(api.MDoChange, 2, 1, 1), 0, 1, w.L))...)
	next, said = Tick(next)
	is(t, "the next view", next, said, wants(2, 2, 1, 2), starts(2, 2)...)
	end := with(wants(2, api.MaxNum, 1, 2), quiet(api.MaxNum))
	next, said = Tick(end)
	is(t, "the last view", next, said, end, starts(2, api.MaxNum)...)
	one := with(wants(0, 1, 0, 2), func(c *api.Core) { c.Group.Members = []int{0} })
	next, said = Tick(one)
	is(t, "alone", next, said, with(one, func(c *api.Core) {
		c.Normal, c.Status, c.Commit, c.Acks = 1, api.SNormal, 2, []api.Ack{{Node: 0, Num: 2}}
	}))
}

// TestExample: 1 starts view 1, 2 joins it, and 1 leads with the longer log.
func TestExample(t *testing.T) {
	cores := []api.Core{core(0, 0, 0, 0), core(1, 0, 0, 0), core(2, 0, 1, 1)}
	next, queue, _ := Start(cores[1], 1)
	cores[1] = next
	for len(queue) > 0 {
		m := queue[0]
		queue = queue[1:]
		if m.To == 0 {
			continue // it is down
		}
		c, more := Take(cores[m.To], m)
		if normal.Check(c) != api.OK || c.View < cores[m.To].View || c.Commit < cores[m.To].Commit {
			t.Fatal(m)
		}
		cores[m.To] = c
		queue = append(queue, more...)
	}
	if !normal.Leads(cores[1]) || cores[1].Commit != 1 || cores[2].Normal != 1 || !ledger.Same(cores[1].L, cores[2].L) {
		t.Error(cores[1], cores[2])
	}
}
