// Package clone copies what has lists in it, so that no two share memory.
package clone

import (
	"slices"

	"plinth/api"
)

// Op copies a request.
func Op(o api.Op) api.Op {
	o.Data = slices.Clone(o.Data)
	o.Old = slices.Clone(o.Old)
	return o
}

// Result copies a result.
func Result(r api.Result) api.Result {
	r.Data = slices.Clone(r.Data)
	return r
}

// Group copies a group.
func Group(g api.Group) api.Group {
	g.Members = slices.Clone(g.Members)
	return g
}

// Entry copies an entry.
func Entry(e api.Entry) api.Entry {
	e.Op = Op(e.Op)
	e.Group = Group(e.Group)
	return e
}

// Entries copies a row of entries.
func Entries(l []api.Entry) []api.Entry { return each(l, Entry) }

// State copies a state.
func State(st api.State) api.State {
	st.Pages = each(st.Pages, func(p api.Page) api.Page {
		p.Data = slices.Clone(p.Data)
		return p
	})
	st.Rows = each(st.Rows, func(r api.Row) api.Row {
		r.Result = Result(r.Result)
		return r
	})
	st.Group = Group(st.Group)
	return st
}

// each copies a row, one by one.
func each[T any](l []T, one func(T) T) []T {
	if len(l) == 0 {
		return nil
	}
	out := make([]T, len(l))
	for i := range l {
		out[i] = one(l[i])
	}
	return out
}

// Ledger copies a ledger.
func Ledger(l api.Ledger) api.Ledger {
	return api.Ledger{State: State(l.State), Log: Entries(l.Log)}
}

// Msg copies a message.
func Msg(m api.Msg) api.Msg {
	m.Op = Op(m.Op)
	m.Result = Result(m.Result)
	m.Group = Group(m.Group)
	m.State = State(m.State)
	m.Log = Entries(m.Log)
	return m
}

// Tail copies a tail.
func Tail(t api.Tail) api.Tail {
	t.State = State(t.State)
	t.Log = Entries(t.Log)
	return t
}

// Tails copies a row of tails.
func Tails(l []api.Tail) []api.Tail { return each(l, Tail) }

// Core copies a core.
func Core(c api.Core) api.Core {
	c.Group = Group(c.Group)
	c.L = Ledger(c.L)
	c.Acks = slices.Clone(c.Acks)
	c.Wants = slices.Clone(c.Wants)
	c.Tails = Tails(c.Tails)
	c.Answers = each(c.Answers, Msg)
	return c
}

// Proxy copies a client.
func Proxy(p api.Proxy) api.Proxy {
	p.Group = Group(p.Group)
	p.Op = Op(p.Op)
	p.Next = Group(p.Next)
	return p
}

// Tree copies a tree.
func Tree(t api.Tree) api.Tree {
	return api.Tree{Levels: each(t.Levels, slices.Clone[[]uint32])}
}

// Events copies a row of events.
func Events(l []api.Event) []api.Event {
	return each(l, func(e api.Event) api.Event {
		e.Op = Op(e.Op)
		e.Group = Group(e.Group)
		e.Result = Result(e.Result)
		return e
	})
}

// Applied copies a row of what nodes did.
func Applied(l []api.Applied) []api.Applied {
	return each(l, func(a api.Applied) api.Applied {
		a.Entry = Entry(a.Entry)
		return a
	})
}
