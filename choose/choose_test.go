package choose

import (
	"testing"

	"plinth/api"
)

var base = api.State{Num: 2, Shape: api.Shape{Blocks: 1, Size: 1}, Group: api.Group{Members: []int{0, 1, 2}}}

func tail(node, normal, commit, last int) api.Tail {
	t := api.Tail{Node: node, Normal: normal, Commit: commit, State: base}
	for n := 3; n <= last; n++ {
		t.Log = append(t.Log, api.Entry{Kind: api.EOp, Num: n, View: normal, Client: 1, Serial: n, Op: api.Op{Kind: api.OpWrite, N: 1, Data: []byte{byte(n)}}})
	}
	return t
}

func TestCheck(t *testing.T) {
	for _, x := range []api.Tail{tail(0, 0, 2, 2), tail(63, api.MaxNum, 5, 5), tail(1, 1, 2, 5)} {
		if e := Check(x); e != api.OK {
			t.Error(x.Node, e)
		}
	}
	gap := tail(0, 0, 3, 5)
	gap.Log = gap.Log[1:]
	for i, x := range []api.Tail{{}, tail(-1, 0, 2, 2), tail(64, 0, 2, 2), tail(0, -1, 2, 2), tail(0, api.MaxNum+1, 2, 2), tail(0, 0, 1, 5), tail(0, 0, 6, 5), gap} {
		if e := Check(x); e != api.ErrTail {
			t.Error(i, e)
		}
		if n, e := Best(tail(0, 0, 2, 2), x); n != 0 || e != api.ErrTail {
			t.Error(i, n, e)
		}
	}
}

func TestBest(t *testing.T) {
	a, b, c := tail(0, 2, 2, 5), tail(1, 3, 2, 4), tail(2, 3, 3, 4)
	if Better(a, b) || !Better(b, a) || Better(b, c) || Better(c, b) || !Better(tail(0, 3, 2, 5), c) {
		t.Error("Better")
	}
	for i, l := range [][]api.Tail{{b, c, a}, {a, b, c}, {a, a, tail(3, 2, 2, 4), tail(4, 1, 2, 9), c}} {
		if n, e := Best(l...); n != []int{0, 1, 4}[i] || e != api.OK {
			t.Error(i, n, e)
		}
	}
	if n, e := Best(); n != 0 || e != api.ErrArg {
		t.Error(n, e)
	}
	if Commit() != 0 || Commit(a, c, b) != 3 || Commit(api.Tail{Commit: -4}) != -4 {
		t.Error("Commit")
	}
}

func TestOfPut(t *testing.T) {
	x := tail(7, 3, 4, 6)
	c := api.Core{Me: 7, View: 9, Normal: 3, Commit: 4, L: api.Ledger{State: x.State, Log: x.Log}}
	o := Of(c)
	if !Same(o, x) {
		t.Error(o)
	}
	o.Log[0].Op.Data[0] = 99
	if c.L.Log[0].Op.Data[0] != 3 {
		t.Error("shared")
	}
	l := []api.Tail{tail(5, 1, 2, 2), tail(2, 1, 2, 2), tail(5, 2, 2, 2), tail(7, 1, 2, 3), tail(2, 9, 2, 2)}
	got := Put(l, x)
	want := []api.Tail{l[1], l[4], l[0], l[2], x}
	if len(got) != len(want) || len(l) != 5 || l[0].Node != 5 {
		t.Fatal(got)
	}
	for i := range want {
		if !Same(got[i], want[i]) {
			t.Error(i)
		}
	}
	if got := Put(nil, x); len(got) != 1 || !Same(got[0], x) {
		t.Error(got)
	}
}

func TestSame(t *testing.T) {
	x := tail(7, 3, 4, 6)
	for _, y := range []api.Tail{tail(6, 3, 4, 6), tail(7, 2, 4, 6), tail(7, 3, 5, 6), tail(7, 3, 4, 5), {}} {
		if Same(x, y) {
			t.Error(y.Node)
		}
	}
	y := x
	y.State.Num++
	if Same(x, y) || !Same(x, tail(7, 3, 4, 6)) {
		t.Error("states")
	}
}

// TestKept: an entry in the logs of a quorum, and in each log of a later view, is in the best of any quorum.
func TestKept(t *testing.T) {
	for last := range 6 {
		all := []api.Tail{tail(0, 2, 2, 4), tail(1, 2, 2, 5), tail(2, 1, 2, 3+last%3), tail(3, 3, 2, 4+last%2), tail(4, 2, 2, 4)}
		for skip := range 1 << 5 {
			var l []api.Tail
			for i := range all {
				if skip>>i&1 == 0 {
					l = append(l, all[i])
				}
			}
			if len(l) < 3 {
				continue
			}
			n, e := Best(l...)
			if e != api.OK || len(l[n].Log) < 2 || l[n].Normal < 2 {
				t.Error(last, skip, n, e)
			}
		}
	}
}
