// Package may tells which numbers, pages, rows, groups, entries and states may be, for all layers that are handed some.
package may

import (
	"plinth/api"
	"plinth/block"
)

// Number: is it one from 0 to MaxNum?
func Number(n int) bool { return n >= 0 && n <= api.MaxNum }

// Serial: is it one from 1 to MaxNum, as entries, serials and clients have?
func Serial(n int) bool { return n >= 1 && n <= api.MaxNum }

// Pages: may they be laid on a volume of a shape?
func Pages(s api.Shape, l []api.Page) bool {
	ahead := -1
	for _, p := range l {
		if p.At <= ahead || p.At >= s.Blocks || !Serial(p.Version) || len(p.Data) != s.Size {
			return false
		}
		ahead = p.At
	}
	return true
}

// Rows: may they be a table's?
func Rows(l []api.Row) bool {
	if len(l) > api.MaxClients {
		return false
	}
	ahead := 0
	for _, r := range l {
		if r.Client <= ahead || !Serial(r.Client) || !Serial(r.Serial) || block.Result(r.Result) != api.OK {
			return false
		}
		ahead = r.Client
	}
	return true
}

// Node: is it one from 0 to MaxNode less 1?
func Node(n int) bool { return n >= 0 && n < api.MaxNode }

// Group: may it be one?
func Group(g api.Group) bool {
	if !Number(g.Epoch) || len(g.Members) < 1 || len(g.Members) > api.MaxGroup {
		return false
	}
	ahead := -1
	for _, m := range g.Members {
		if m <= ahead || !Node(m) {
			return false
		}
		ahead = m
	}
	return true
}

// Entry: may it be one?
func Entry(e api.Entry) bool {
	if !Serial(e.Num) || !Number(e.View) || !Serial(e.Client) || !Serial(e.Serial) {
		return false
	}
	switch e.Kind {
	case api.EOp:
		return block.Form(e.Op) == api.OK && NoGroup(e.Group)
	case api.EConf:
		return Group(e.Group) && NoOp(e.Op)
	}
	return false
}

// Entries: may each be one, and are they numbered without a gap?
func Entries(l []api.Entry) bool {
	for i, e := range l {
		if !Entry(e) || e.Num != l[0].Num+i {
			return false
		}
	}
	return true
}

// State: may it be one?
func State(st api.State) bool {
	if !Number(st.Num) || block.Shape(st.Shape) != api.OK || !Pages(st.Shape, st.Pages) || !Rows(st.Rows) || !Group(st.Group) {
		return false
	}
	for _, p := range st.Pages {
		if p.Version > st.Num {
			return false
		}
	}
	return true
}

// NoOp: is nothing asked for?
func NoOp(o api.Op) bool { return block.Same(o, api.Op{}) }

// NoGroup: is nothing of a group told?
func NoGroup(g api.Group) bool { return g.Epoch == 0 && len(g.Members) == 0 }

// NoState: is nothing of a state told?
func NoState(st api.State) bool {
	return st.Num == 0 && st.Shape == api.Shape{} && len(st.Pages) == 0 && len(st.Rows) == 0 && NoGroup(st.Group)
}
